/- Small texts, one behind the other: MemE, MemO, RqAdd, RqAddM. -/
import Derived.Test.YtbcmlolaihnalacGreatDoorPk1
import Derived.Laws.OwnMore
import Derived.Test.YtbcmlolaihnalacGreatDoorPk3
import Derived.Deep.RegionLaw
import Derived.Deep.AppendLies
/- Events of a stream in memory, of whatever program: one that lies at a place, and a slice of them that is read. -/
namespace Go.Proofs.YtbcmlolaihnalacGreatDoor
open Go.RowKit

/-- an event, as it is handed over -/
structure EvD where
  kind : Int
  method : ByteArray
  target : ByteArray
  minor : Int
  fields : List (ByteArray × ByteArray)
  length : Int
  bytes : List UInt8
  pname : ByteArray
  pfile : ByteArray
  ptype : ByteArray
  pbytes : List UInt8
  code : Int
/-- where an event's slices lie -/
structure EvS where
  fo : Option Addr
  fcap : Nat
  bo : Option Addr
  bcap : Nat
  po : Option Addr
  pcap : Nat
/-- its cells -/
def EvD.cells (e : EvD) (s : EvS) : List Value := [.int .i64 e.kind, .string e.method, .string e.target, .int .i64 e.minor, .slice s.fo e.fields.length s.fcap, .int .i64 e.length, .slice s.bo e.bytes.length s.bcap, .string e.pname, .string e.pfile, .string e.ptype, .slice s.po e.pbytes.length s.pcap, .int .i64 e.code]
/-- an event lies at a place of block b from o on -/
structure IsEv (w : World) (b o : Nat) (e : EvD) (s : EvS) : Prop where
  at_ : ∀ j u, (e.cells s)[j]? = some u → w.cell? ⟨b, o + j, none⟩ = some u
  fields : IsV w s.fo s.fcap e.fields.length (pairV e.fields)
  bytes : IsB w s.bo s.bcap e.bytes
  pbytes : IsB w s.po s.pcap e.pbytes
theorem IsEv.stay {w w' : World} {b o : Nat} {e : EvD} {s : EvS} (h : IsEv w b o e s) (hb : Below w.heap.size w w') : IsEv w' b o e s :=
  ⟨fun j u hj => by have := h.at_ j u hj; rw [hb.cell (World.block_lt_of_cell? w _ this)]; exact this, h.fields.stay hb, h.bytes.stay hb, h.pbytes.stay hb⟩
/-- a slice of events that reads as es: whoever's memory it is -/
def IsEs (w : World) (ao : Option Addr) (cap : Nat) (es : List EvD) : Prop :=
  es.length ≤ cap ∧ (ao = none → cap = 0) ∧ ∀ j (hj : j < es.length), ∃ b o s, ao = some ⟨b, o, none⟩ ∧ IsEv w b (o + j * 12) es[j] s
theorem IsEs.nil (w : World) : IsEs w none 0 [] := ⟨Nat.le_refl _, fun _ => rfl, fun j hj => by simp at hj⟩
theorem IsEs.stay {w w' : World} {ao : Option Addr} {cap : Nat} {es : List EvD} (h : IsEs w ao cap es) (hb : Below w.heap.size w w') : IsEs w' ao cap es := by
  refine ⟨h.1, h.2.1, fun j hj => ?_⟩
  obtain ⟨b, o, s, e, hE⟩ := h.2.2 j hj
  exact ⟨b, o, s, e, hE.stay hb⟩
/-- its address, written out -/
theorem IsEs.lit {w : World} {ao : Option Addr} {cap : Nat} {es : List EvD} (h : IsEs w ao cap es) (hl : 0 < es.length) : ∃ b o, ao = some ⟨b, o, none⟩ ∧ ∀ j (hj : j < es.length), ∃ s, IsEv w b (o + j * 12) es[j] s := by
  obtain ⟨b, o, _, rfl, _⟩ := h.2.2 0 hl
  refine ⟨b, o, rfl, fun j hj => ?_⟩
  obtain ⟨b', o', s, e, hE⟩ := h.2.2 j hj
  injection e with e
  injection e with e1 e2
  subst e1; subst e2
  exact ⟨s, hE⟩
end Go.Proofs.YtbcmlolaihnalacGreatDoor

/- Events of a stream that a call gathers, of whatever program: a row of its own, what lies within each of them, and all of its memory among some blocks; one more behind them, bytes more of the last one. -/
namespace Go.Proofs.YtbcmlolaihnalacGreatDoor
open Go.RowKit

/-- cells that are read, and where there are some, they lie among the blocks S -/
structure IsVS (w : World) (S : Nat → Prop) (ao : Option Addr) (cap n : Nat) (xs : List Value) : Prop where
  is : IsV w ao cap n xs
  mem : xs ≠ [] → ∀ a, ao = some a → S a.block
structure IsBS (w : World) (S : Nat → Prop) (ao : Option Addr) (cap : Nat) (l : List UInt8) : Prop where
  is : IsB w ao cap l
  mem : l ≠ [] → ∀ a, ao = some a → S a.block
/-- bytes that an append may go on with: of the call's own, among the blocks S; or none, and no room -/
def GrowB (w : World) (S : Nat → Prop) (t : Nat) (ao : Option Addr) (cap : Nat) (l : List UInt8) : Prop :=
  (l ≠ [] ∧ OwnB w 0 t ao cap l ∧ ∀ a, ao = some a → S a.block) ∨ (l = [] ∧ cap = 0)
section
variable {w w' : World} {S S' : Nat → Prop} {t : Nat} {ao : Option Addr} {cap n : Nat} {xs : List Value} {l : List UInt8}
theorem IsVS.nil (w : World) (S : Nat → Prop) : IsVS w S none 0 0 [] := ⟨IsV.nil w, fun e => absurd rfl e⟩
theorem IsBS.nil (w : World) (S : Nat → Prop) : IsBS w S none 0 [] := ⟨IsB.nil w, fun e => absurd rfl e⟩
theorem GrowB.nil (w : World) (S : Nat → Prop) (t : Nat) : GrowB w S t none 0 [] := Or.inr ⟨rfl, rfl⟩
theorem IsVS.mono (h : IsVS w S ao cap n xs) (hs : ∀ k, k < w.heap.size → S k → S' k) : IsVS w S' ao cap n xs := ⟨h.is, fun hx a e => by
  refine hs _ ?_ (h.mem hx a e)
  subst e
  cases xs with
  | nil => exact absurd rfl hx
  | cons u r =>
    have := World.block_lt_of_cell? w _ (h.is.cell (j := 0) rfl)
    rwa [add_block] at this⟩
theorem IsBS.mono (h : IsBS w S ao cap l) (hs : ∀ k, k < w.heap.size → S k → S' k) : IsBS w S' ao cap l := ⟨h.is, fun hx a e => by
  refine hs _ ?_ (h.mem hx a e)
  subst e
  cases l with
  | nil => exact absurd rfl hx
  | cons u r =>
    have := World.block_lt_of_cell? w _ (h.is.cell 0 (by simp))
    rwa [add_block] at this⟩
theorem GrowB.mono (h : GrowB w S t ao cap l) (hs : ∀ k, k < w.heap.size → S k → S' k) : GrowB w S' t ao cap l := by
  rcases h with ⟨h1, h2, h3⟩ | h
  · exact Or.inl ⟨h1, h2, fun a e => hs _ (h2.block a e).2 (h3 a e)⟩
  · exact Or.inr h
theorem IsV.empty (w : World) (h : IsV w' ao cap n []) : IsV w ao cap n [] := ⟨h.1, h.2.1, fun j u hj => by simp at hj⟩
theorem IsB.empty (w : World) (h : IsB w' ao cap []) : IsB w ao cap [] := ⟨h.1, h.2.1, fun j hj => by simp at hj⟩
theorem IsVS.turns (h : IsVS w S ao cap n xs) (ht : Turns S' w w') (hs : ∀ k, S k → ¬ S' k) : IsVS w' S ao cap n xs := by
  refine ⟨?_, h.mem⟩
  by_cases hx : xs = []
  · subst hx; exact IsV.empty w' h.is
  · exact h.is.turns ht (fun a e => hs _ (h.mem hx a e))
theorem IsBS.turns (h : IsBS w S ao cap l) (ht : Turns S' w w') (hs : ∀ k, S k → ¬ S' k) : IsBS w' S ao cap l := by
  refine ⟨?_, h.mem⟩
  by_cases hx : l = []
  · subst hx; exact IsB.empty w' h.is
  · exact h.is.turns ht (fun a e => hs _ (h.mem hx a e))
theorem GrowB.turns (h : GrowB w S t ao cap l) (ht : Turns S' w w') (hs : ∀ k, S k → ¬ S' k) : GrowB w' S t ao cap l := by
  rcases h with ⟨h1, h2, h3⟩ | h
  · exact Or.inl ⟨h1, h2.turns ht (fun a e => hs _ (h3 a e)), h3⟩
  · exact Or.inr h
theorem GrowB.isB (h : GrowB w S t ao cap l) : IsB w ao cap l := by
  rcases h with ⟨_, h2, _⟩ | ⟨rfl, rfl⟩
  · exact h2.isB
  · exact ⟨Nat.le_refl _, fun _ => rfl, fun j hj => by simp at hj⟩
theorem GrowB.isBS (h : GrowB w S t ao cap l) : IsBS w S ao cap l := ⟨h.isB, fun hl a e => by
  rcases h with ⟨_, _, h3⟩ | ⟨h1, _⟩
  · exact h3 a e
  · exact absurd h1 hl⟩
end
/-- what lies within an event, all of it among the blocks S -/
structure InE (w : World) (S : Nat → Prop) (e : EvD) (s : EvS) : Prop where
  fields : IsVS w S s.fo s.fcap e.fields.length (pairV e.fields)
  bytes : IsBS w S s.bo s.bcap e.bytes
  pbytes : IsBS w S s.po s.pcap e.pbytes
theorem InE.mono {w : World} {S S' : Nat → Prop} {e : EvD} {s : EvS} (h : InE w S e s) (hs : ∀ k, k < w.heap.size → S k → S' k) : InE w S' e s := ⟨h.fields.mono hs, h.bytes.mono hs, h.pbytes.mono hs⟩
theorem InE.turns {w w' : World} {S S' : Nat → Prop} {e : EvD} {s : EvS} (h : InE w S e s) (ht : Turns S' w w') (hs : ∀ k, S k → ¬ S' k) : InE w' S e s := ⟨h.fields.turns ht hs, h.bytes.turns ht hs, h.pbytes.turns ht hs⟩
/-- the row of events -/
def rowsV (ps : List (EvD × EvS)) : List Value := ps.flatMap fun p => p.1.cells p.2
theorem rowsV_length (ps : List (EvD × EvS)) : (rowsV ps).length = ps.length * 12 := by
  induction ps with
  | nil => rfl
  | cons p t ih =>
    have e : (p.1.cells p.2).length = 12 := rfl
    simp only [rowsV, List.flatMap_cons, List.length_append, List.length_cons] at ih ⊢
    rw [ih, e]; omega
theorem rowsV_append (a b : List (EvD × EvS)) : rowsV (a ++ b) = rowsV a ++ rowsV b := by simp [rowsV]
theorem cells_one (e : EvD) (s : EvS) : ∀ u ∈ e.cells s, u.oneCell' = true := by
  intro u hu
  simp only [EvD.cells, List.mem_cons, List.not_mem_nil, or_false] at hu
  rcases hu with rfl | rfl | rfl | rfl | rfl | rfl | rfl | rfl | rfl | rfl | rfl | rfl <;> rfl
theorem rowsV_one (ps : List (EvD × EvS)) : ∀ u ∈ rowsV ps, u.oneCell' = true := by
  intro u hu
  obtain ⟨p, _, hp⟩ := List.mem_flatMap.1 hu
  exact cells_one _ _ u hp
theorem rowsV_at : ∀ (ps : List (EvD × EvS)) (i : Nat) (hi : i < ps.length) (j : Nat), j < 12 → (rowsV ps)[i * 12 + j]? = (ps[i].1.cells ps[i].2)[j]?
  | p :: t, 0, _, j, hj => by
    show (p.1.cells p.2 ++ rowsV t)[0 * 12 + j]? = _
    rw [List.getElem?_append_left (by rw [show (p.1.cells p.2).length = 12 from rfl]; omega), Nat.zero_mul, Nat.zero_add]
    rfl
  | p :: t, i + 1, hi, j, hj => by
    show (p.1.cells p.2 ++ rowsV t)[(i + 1) * 12 + j]? = _
    rw [List.getElem?_append_right (by rw [show (p.1.cells p.2).length = 12 from rfl]; omega), show (p.1.cells p.2).length = 12 from rfl, show (i + 1) * 12 + j - 12 = i * 12 + j by omega]
    exact rowsV_at t i (by simpa using hi) j hj
/-- an event in a new block -/
theorem EvD.made (e : EvD) (s : EvS) (W : World) (t : Nat) (fr : Nat × Nat) {k : Nat} (hk : W.heap.size = k) : IsV (W.alloc (.cells #[.int .i64 e.kind, .string e.method, .string e.target, .int .i64 e.minor, .slice s.fo e.fields.length s.fcap, .int .i64 e.length, .slice s.bo e.bytes.length s.bcap, .string e.pname, .string e.pfile, .string e.ptype, .slice s.po e.pbytes.length s.pcap, .int .i64 e.code] t fr)) (some ⟨k, 0, none⟩) 1 1 (e.cells s) := by
  subst hk
  exact IsV.made W _ 1 t fr
/-- the block of the bytes of an event that has some -/
def lastB (e : EvD) (s : EvS) : Option Nat := if e.bytes = [] then none else blockOf s.bo
/-- events that are gathered: a row of the call's own; the last one's bytes lie apart from all else -/
inductive OutAt (w : World) (S : Nat → Prop) (tE tb : Nat) : Option Addr → Nat → List EvD → Prop
  | bare : OutAt w S tE tb none 0 []
  | laid (q : List (EvD × EvS)) (e : EvD) (s : EvS) (g cap : Nat) (own : OwnV w 0 tE 12 (some ⟨g, 0, none⟩) cap (q.length + 1) (rowsV (q ++ [(e, s)]))) (mem : S g)
      (ahead : ∀ p ∈ q, InE w (fun k => (S k ∧ k ≠ g) ∧ lastB e s ≠ some k) p.1 p.2)
      (fields : IsVS w (fun k => (S k ∧ k ≠ g) ∧ lastB e s ≠ some k) s.fo s.fcap e.fields.length (pairV e.fields))
      (pbytes : IsBS w (fun k => (S k ∧ k ≠ g) ∧ lastB e s ≠ some k) s.po s.pcap e.pbytes)
      (bytes : GrowB w (fun k => S k ∧ k ≠ g) tb s.bo s.bcap e.bytes) : OutAt w S tE tb (some ⟨g, 0, none⟩) cap (q.map (·.1) ++ [e])
section
variable {w w' : World} {S S' : Nat → Prop} {tE tb : Nat} {ao : Option Addr} {cap : Nat} {es : List EvD}
theorem OutAt.turns (h : OutAt w S tE tb ao cap es) (ht : Turns S' w w') (hs : ∀ k, S k → ¬ S' k) : OutAt w' S tE tb ao cap es := by
  cases h with
  | bare => exact .bare
  | laid q e s g cap own mem ahead fields pbytes bytes =>
    exact .laid q e s g cap (own.turns ht (fun a e => by injection e with e; subst e; exact hs _ mem)) mem (fun p hp => (ahead p hp).turns ht (fun k e => hs k e.1.1)) (fields.turns ht (fun k e => hs k e.1.1)) (pbytes.turns ht (fun k e => hs k e.1.1)) (bytes.turns ht (fun k e => hs k e.1))
theorem OutAt.mono (h : OutAt w S tE tb ao cap es) (hs : ∀ k, k < w.heap.size → S k → S' k) : OutAt w S' tE tb ao cap es := by
  cases h with
  | bare => exact .bare
  | laid q e s g cap own mem ahead fields pbytes bytes =>
    have hs2 : ∀ k, k < w.heap.size → ((S k ∧ k ≠ g) ∧ lastB e s ≠ Option.some k) → ((S' k ∧ k ≠ g) ∧ lastB e s ≠ Option.some k) := fun k hk e => ⟨⟨hs k hk e.1.1, e.1.2⟩, e.2⟩
    exact .laid q e s g cap own (hs g (own.block _ rfl).2 mem) (fun p hp => (ahead p hp).mono hs2) (fields.mono hs2) (pbytes.mono hs2) (bytes.mono (fun k hk e => ⟨hs k hk e.1, e.2⟩))
theorem OutAt.stay (h : OutAt w S tE tb ao cap es) (hb : Below w.heap.size w w') : OutAt w' S tE tb ao cap es := h.turns (Turns.of_below (S := fun _ => False) hb) (fun _ _ e => e)
theorem OutAt.own (h : OutAt w S tE tb ao cap es) : ∃ ps : List (EvD × EvS), ps.map (·.1) = es ∧ OwnV w 0 tE 12 ao cap es.length (rowsV ps) ∧ (∀ a, ao = some a → S a.block) ∧ ∀ p ∈ ps, InE w (fun k => S k ∧ blockOf ao ≠ some k) p.1 p.2 := by
  cases h with
  | bare => exact ⟨[], rfl, OwnV.nil _ _ _ _, fun a e => (by cases e), fun p hp => (by cases hp)⟩
  | laid q e s g cap own mem ahead fields pbytes bytes =>
    refine ⟨q ++ [(e, s)], by simp, by simpa using own, fun a e => (by injection e with e; subst e; exact mem), fun p hp => ?_⟩
    have hc : ∀ k, k < w.heap.size → ((S k ∧ k ≠ g) ∧ lastB e s ≠ Option.some k) → (S k ∧ blockOf (Option.some ⟨g, 0, Option.none⟩) ≠ Option.some k) := fun k _ e => ⟨e.1.1, fun e2 => by injection e2 with e2; exact e.1.2 e2.symm⟩
    rcases List.mem_append.1 hp with hp | hp
    · exact (ahead p hp).mono hc
    · simp at hp; subst hp
      exact ⟨fields.mono hc, bytes.isBS.mono (fun k _ e => ⟨e.1, fun e2 => by injection e2 with e2; exact e.2 e2.symm⟩), pbytes.mono hc⟩
/-- as it is read -/
theorem OutAt.isEs (h : OutAt w S tE tb ao cap es) : IsEs w ao cap es := by
  obtain ⟨ps, rfl, hO, _, hI⟩ := h.own
  have hv := hO.isV
  refine ⟨hv.1, hv.2.1, fun j hj => ?_⟩
  have hj' : j < ps.length := by simpa using hj
  have h0 : 0 < (rowsV ps).length := by rw [rowsV_length]; omega
  obtain ⟨b, o, rfl, hc⟩ := hv.lit h0
  refine ⟨b, o, ps[j].2, rfl, ?_⟩
  rw [List.getElem_map]
  have hin := hI _ (List.getElem_mem hj')
  refine ⟨fun i u hi => ?_, hin.fields.is, hin.bytes.is, hin.pbytes.is⟩
  have hl : i < 12 := (List.getElem?_eq_some_iff.1 hi).1
  rw [← rowsV_at _ j hj' i hl] at hi
  have := hc _ _ hi
  rw [Nat.add_assoc]; exact this
/-- its last event -/
theorem OutAt.last {q : List EvD} {x : EvD} (h : OutAt w S tE tb ao cap es) (he : es = q ++ [x]) : ∃ (qs : List (EvD × EvS)) (s : EvS) (g : Nat), qs.map (·.1) = q ∧ ao = some ⟨g, 0, none⟩ ∧
    OwnV w 0 tE 12 (some ⟨g, 0, none⟩) cap (qs.length + 1) (rowsV (qs ++ [(x, s)])) ∧ S g ∧ (∀ p ∈ qs, InE w (fun k => (S k ∧ k ≠ g) ∧ lastB x s ≠ some k) p.1 p.2) ∧
    IsVS w (fun k => (S k ∧ k ≠ g) ∧ lastB x s ≠ some k) s.fo s.fcap x.fields.length (pairV x.fields) ∧ IsBS w (fun k => (S k ∧ k ≠ g) ∧ lastB x s ≠ some k) s.po s.pcap x.pbytes ∧ GrowB w (fun k => S k ∧ k ≠ g) tb s.bo s.bcap x.bytes := by
  cases h with
  | bare => simp at he
  | laid qs e s g cap own mem ahead fields pbytes bytes =>
    obtain ⟨h1, h2⟩ := List.append_inj' he rfl
    injection h2 with h2 _
    subst h2
    exact ⟨qs, s, g, h1, rfl, own, mem, ahead, fields, pbytes, bytes⟩
/-- one event more: its row grew -/
theorem OutAt.more {N : Nat → Prop} {ps : List (EvD × EvS)} {ao' : Option Addr} {cap' n : Nat} {e : EvD} {s : EvS}
    (hA : ∀ a, ao = some a → S a.block) (hI : ∀ p ∈ ps, InE w (fun k => S k ∧ blockOf ao ≠ some k) p.1 p.2)
    (hf : IsVS w (fun k => N k ∧ lastB e s ≠ some k) s.fo s.fcap e.fields.length (pairV e.fields)) (hp : IsBS w (fun k => N k ∧ lastB e s ≠ some k) s.po s.pcap e.pbytes) (hb : GrowB w N tb s.bo s.bcap e.bytes)
    (hN : ∀ k, S k → ¬ N k) (hO : OwnV w' 0 tE 12 ao' cap' n (rowsV (ps ++ [(e, s)]))) (hn : n = ps.length + 1)
    (hG : w.grownBy w' (blockOf ao)) (hat : blockOf ao' = blockOf ao ∨ blockOf ao' = some w.heap.size) :
    OutAt w' (fun k => S k ∨ N k ∨ k = w.heap.size) tE tb ao' cap' (ps.map (·.1) ++ [e]) := by
  subst hn
  have hT : Turns (fun k => blockOf ao = some k) w w' := Turns.of_grown hG (fun k e => e)
  have hBS : ∀ k, blockOf ao = some k → S k := fun k e => by
    cases ao with
    | none => cases e
    | some a => injection e with e; subst e; exact hA a rfl
  obtain ⟨g, rfl⟩ : ∃ g, ao' = some ⟨g, 0, none⟩ := by
    rcases hO.2 with ⟨_, h⟩ | ⟨g, cap, cur, h, _⟩
    · omega
    · injection h with h _ _; exact ⟨g, h⟩
  have hg : blockOf ao = some g ∨ g = w.heap.size := by
    rcases hat with h | h
    · exact Or.inl h.symm
    · injection h with h; exact Or.inr h
  have hlast : ∀ k, lastB e s = some k → N k := fun k h => by
    unfold lastB at h
    split at h
    · cases h
    · rcases hb with ⟨_, _, h3⟩ | ⟨h1, _⟩
      · cases hbo : s.bo with
        | none => rw [hbo] at h; cases h
        | some a => rw [hbo] at h; injection h with h; subst h; exact h3 a hbo
      · contradiction
  have hng : ∀ k, k < w.heap.size → N k → k ≠ g := fun k hk hNk e => by
    subst e
    rcases hg with h | h
    · exact hN k (hBS k h) hNk
    · omega
  refine .laid ps e s g cap' hO ?_ (fun p hp => ?_) ?_ ?_ ?_
  · rcases hg with h | h
    · exact Or.inl (hBS g h)
    · exact Or.inr (Or.inr h)
  · refine ((hI p hp).mono (S' := fun k => ((S k ∨ N k ∨ k = w.heap.size) ∧ k ≠ g) ∧ lastB e s ≠ some k ∧ blockOf ao ≠ some k) (fun k hk h => ⟨⟨Or.inl h.1, fun e => ?_⟩, fun e2 => hN k h.1 (hlast k e2), h.2⟩) |>.turns hT (fun k h => h.2.2)).mono (fun k _ h => ⟨h.1, h.2.1⟩)
    subst e
    rcases hg with h2 | h2
    · exact h.2 h2
    · omega
  · exact (hf.mono (S' := fun k => ((S k ∨ N k ∨ k = w.heap.size) ∧ k ≠ g) ∧ lastB e s ≠ some k ∧ N k) (fun k hk h => ⟨⟨Or.inr (Or.inl h.1), hng k hk h.1⟩, h.2, h.1⟩) |>.turns hT (fun k h e2 => hN k (hBS k e2) h.2.2)).mono (fun k _ h => ⟨h.1, h.2.1⟩)
  · exact (hp.mono (S' := fun k => ((S k ∨ N k ∨ k = w.heap.size) ∧ k ≠ g) ∧ lastB e s ≠ some k ∧ N k) (fun k hk h => ⟨⟨Or.inr (Or.inl h.1), hng k hk h.1⟩, h.2, h.1⟩) |>.turns hT (fun k h e2 => hN k (hBS k e2) h.2.2)).mono (fun k _ h => ⟨h.1, h.2.1⟩)
  · exact (hb.mono (S' := fun k => ((S k ∨ N k ∨ k = w.heap.size) ∧ k ≠ g) ∧ N k) (fun k hk h => ⟨⟨Or.inr (Or.inl h), hng k hk h⟩, h⟩) |>.turns hT (fun k h e2 => hN k (hBS k e2) h.2)).mono (fun k _ h => h.1)
theorem rowsV_set (q : List (EvD × EvS)) (e : EvD) (s : EvS) (l : List UInt8) (bo : Option Addr) (bcap n : Nat) (hn : n = l.length) :
    (rowsV (q ++ [(e, s)])).set (q.length * 12 + 6) (.slice bo n bcap) = rowsV (q ++ [({ e with bytes := l }, { s with bo := bo, bcap := bcap })]) := by
  subst hn
  rw [rowsV_append, rowsV_append, List.set_append_right _ _ (by rw [rowsV_length]; omega), rowsV_length, Nat.add_sub_cancel_left]
  rfl
/-- bytes more of the last event: they grew, and are laid into it -/
theorem OutAt.merge {w1 : World} {q : List (EvD × EvS)} {e : EvD} {s : EvS} {g n : Nat} {l : List UInt8} {bo : Option Addr} {bcap : Nat}
    (own : OwnV w 0 tE 12 (some ⟨g, 0, none⟩) cap (q.length + 1) (rowsV (q ++ [(e, s)]))) (mem : S g)
    (ahead : ∀ p ∈ q, InE w (fun k => (S k ∧ k ≠ g) ∧ lastB e s ≠ some k) p.1 p.2)
    (fields : IsVS w (fun k => (S k ∧ k ≠ g) ∧ lastB e s ≠ some k) s.fo s.fcap e.fields.length (pairV e.fields))
    (pbytes : IsBS w (fun k => (S k ∧ k ≠ g) ∧ lastB e s ≠ some k) s.po s.pcap e.pbytes)
    (bytes : GrowB w (fun k => S k ∧ k ≠ g) tb s.bo s.bcap e.bytes)
    (hO : GrowB w1 (fun k => lastB e s = some k ∨ w.heap.size ≤ k) tb bo bcap l) (hn : n = l.length) (hT : Turns (fun k => lastB e s = some k) w w1) :
    OutAt (w1.setCell ⟨g, q.length * 12 + 6, none⟩ (.slice bo n bcap)) (orNew S w) tE tb (some ⟨g, 0, none⟩) cap (q.map (·.1) ++ [{ e with bytes := l }]) ∧ Turns S w (w1.setCell ⟨g, q.length * 12 + 6, none⟩ (.slice bo n bcap)) := by
  have hlast : ∀ k, lastB e s = some k → S k ∧ k ≠ g := fun k h => by
    unfold lastB at h
    split at h
    · cases h
    · rcases bytes with ⟨_, _, h3⟩ | ⟨h1, _⟩
      · cases hbo : s.bo with
        | none => rw [hbo] at h; cases h
        | some a => rw [hbo] at h; injection h with h; subst h; exact h3 a hbo
      · contradiction
  have hgl : g < w.heap.size := (own.block _ rfl).2
  have hT2 : Turns S w (w1.setCell ⟨g, q.length * 12 + 6, none⟩ (.slice bo n bcap)) := (hT.mono (fun k e => (hlast k e).1)).trans (Turns.setCell S w1 _ _ mem) (fun _ e _ => e)
  have hS : Turns (fun k => k = g) w1 (w1.setCell ⟨g, q.length * 12 + 6, none⟩ (.slice bo n bcap)) := Turns.setCell (fun k => k = g) w1 _ _ rfl
  have own1 : OwnV w1 0 tE 12 (some ⟨g, 0, none⟩) cap (q.length + 1) (rowsV (q ++ [(e, s)])) := own.turns hT (fun a e h => by injection e with e; subst e; exact (hlast _ h).2 rfl)
  have own2 := (World.ownsRow.stored own1 (q.length * 12 + 6) (.slice bo n bcap)).1
  rw [rowsV_set q e s l bo bcap n hn] at own2
  refine ⟨?_, hT2⟩
  have hlb : ∀ k, lastB { e with bytes := l } { s with bo := bo, bcap := bcap } = some k → lastB e s = some k ∨ w.heap.size ≤ k := fun k h => by
    unfold lastB at h
    simp only at h
    split at h
    · cases h
    · rcases hO with ⟨_, _, h3⟩ | ⟨h1, _⟩
      · cases hbo : bo with
        | none => rw [hbo] at h; cases h
        | some a => rw [hbo] at h; injection h with h; subst h; exact h3 a hbo
      · contradiction
  have hmove : ∀ k, k < w.heap.size → ((S k ∧ k ≠ g) ∧ lastB e s ≠ some k) → ((orNew S w k ∧ k ≠ g) ∧ lastB { e with bytes := l } { s with bo := bo, bcap := bcap } ≠ some k) ∧ lastB e s ≠ some k := fun k hk h => ⟨⟨⟨Or.inl h.1.1, h.1.2⟩, fun e2 => by
    rcases hlb k e2 with e3 | e3
    · exact h.2 e3
    · omega⟩, h.2⟩
  refine .laid q _ { s with bo := bo, bcap := bcap } g cap own2 (Or.inl mem) (fun p hp => ?_) ?_ ?_ ?_
  · exact (((ahead p hp).mono hmove).turns hT (fun k h => h.2)).turns hS (fun k h => h.1.1.2) |>.mono (fun k _ h => h.1)
  · exact ((fields.mono hmove).turns hT (fun k h => h.2)).turns hS (fun k h => h.1.1.2) |>.mono (fun k _ h => h.1)
  · exact ((pbytes.mono hmove).turns hT (fun k h => h.2)).turns hS (fun k h => h.1.1.2) |>.mono (fun k _ h => h.1)
  · refine (hO.mono (S' := fun k => orNew S w k ∧ k ≠ g) (fun k _ h => ?_)).turns hS (fun k h => h.2)
    rcases h with h | h
    · exact ⟨Or.inl (hlast k h).1, (hlast k h).2⟩
    · exact ⟨Or.inr h, by omega⟩
end
end Go.Proofs.YtbcmlolaihnalacGreatDoor

/- Package request, walked: add (an event more behind others). -/
namespace Go.Proofs.YtbcmlolaihnalacGreatDoor
open Go.RowKit

theorem info_ev : (Tryz.prog.info? 47).map (fun i => (i.zero, i.size, i.bytes)) = some (some (.agg #[.int .i64 0, .string ⟨#[]⟩, .string ⟨#[]⟩, .int .i64 0, .slice none 0 0, .int .i64 0, .slice none 0 0, .string ⟨#[]⟩, .string ⟨#[]⟩, .string ⟨#[]⟩, .slice none 0 0, .int .i64 0]), 12, 184) := by kernel_rfl

/-- an event that comes in: its memory lies among N, apart from S -/
structure NewE (w : World) (S N : Nat → Prop) (e : EvD) (s : EvS) : Prop where
  fields : IsVS w (fun k => N k ∧ lastB e s ≠ some k) s.fo s.fcap e.fields.length (pairV e.fields)
  pbytes : IsBS w (fun k => N k ∧ lastB e s ≠ some k) s.po s.pcap e.pbytes
  bytes : GrowB w N 5 s.bo s.bcap e.bytes
  apart : ∀ k, S k → ¬ N k
theorem NewE.stay {w w' : World} {S N : Nat → Prop} {e : EvD} {s : EvS} (h : NewE w S N e s) (hb : Below w.heap.size w w') : NewE w' S N e s :=
  have ht := Turns.of_below (S := fun _ => False) hb
  ⟨h.fields.turns ht (fun _ _ k => k), h.pbytes.turns ht (fun _ _ k => k), h.bytes.turns ht (fun _ _ k => k), h.apart⟩
/-- what add comes to -/
inductive AddOut (w : World) (S N : Nat → Prop) (es : List EvD) (e : EvD) (v : Ending) (w' : World) : Prop
  | mk (ao : Option Addr) (cap : Nat) (hv : v = .returned (.slice ao (es.length + 1) cap)) (hO : OutAt w' (fun k => S k ∨ N k ∨ w.heap.size ≤ k) 47 5 ao cap (es ++ [e])) (hT : Turns S w w')
/-- all that is known ahead -/
structure AddIn (w : World) (S N : Nat → Prop) (ao : Option Addr) (ps : List (EvD × EvS)) (es : List EvD) (e : EvD) (s : EvS) : Prop where
  es : ps.map (·.1) = es
  mem : ∀ a, ao = some a → S a.block
  ins : ∀ p ∈ ps, InE w (fun k => S k ∧ blockOf ao ≠ some k) p.1 p.2
  new : NewE w S N e s
theorem AddOut.of {w w3 : World} {S N : Nat → Prop} {ao ao3 : Option Addr} {cap3 n : Nat} {ps : List (EvD × EvS)} {es : List EvD} {e : EvD} {s : EvS} {x y : Obj}
    (h : AddIn w S N ao ps es e s) (hO : OwnV w3 0 47 12 ao3 cap3 (n + 1) (rowsV ps ++ e.cells s)) (hG : ((w.alloc x).alloc y).grownBy w3 (blockOf ao)) (hat : blockOf ao3 = blockOf ao ∨ blockOf ao3 = some ((w.alloc x).alloc y).heap.size) (hn : n = es.length := by rfl) :
    AddOut w S N es e (.returned (.slice ao3 (n + 1) cap3)) w3 := by
  subst hn
  have hB : Below w.heap.size w ((w.alloc x).alloc y) := ((Below.refl _ _).alloc (Nat.le_refl _) _).alloc (by simp) _
  have hT := Turns.of_below (S := fun _ => False) hB
  have hl : es.length = ps.length := by rw [← h.es]; simp
  have hin : ∀ p ∈ ps, InE ((w.alloc x).alloc y) (fun k => S k ∧ blockOf ao ≠ some k) p.1 p.2 := fun p hp => (h.ins p hp).turns hT (fun _ _ k => k)
  have hnew := h.new.stay hB
  have hO' : OwnV w3 0 47 12 ao3 cap3 (ps.length + 1) (rowsV (ps ++ [(e, s)])) := by
    rw [rowsV_append, ← hl]
    have e1 : rowsV [(e, s)] = e.cells s := by simp [rowsV]
    rw [e1]; exact hO
  have hM := OutAt.more (tb := 5) h.mem hin hnew.fields hnew.pbytes hnew.bytes hnew.apart hO' rfl hG hat
  refine .mk ao3 cap3 rfl ?_ ?_
  · rw [← h.es]
    refine hM.mono (fun k _ hk => ?_)
    rcases hk with hk | hk | hk
    · exact Or.inl hk
    · exact Or.inr (Or.inl hk)
    · refine Or.inr (Or.inr ?_); rw [hk]; exact hB.size
  · refine (Turns.of_below (S := S) hB).trans (Turns.of_grown (S := S) hG (fun k hk => ?_)) (fun _ k _ => k)
    cases ao with
    | none => cases hk
    | some a => injection hk with hk; subst hk; exact h.mem a rfl

set_option maxHeartbeats 1000000 in
set_option maxRecDepth 100000 in
/-- one that is no body -/
theorem add_other (w : World) (S N : Nat → Prop) (ao : Option Addr) (cap : Nat) (es : List EvD) (e : EvD) (s : EvS) (h : OutAt w S 47 5 ao cap es) (hE : NewE w S N e s) (hl : es.length ≤ 1000000) (hk : e.kind ≠ 2) :
    Calls Tryz.prog 25 #[.slice ao es.length cap, .agg #[.int .i64 e.kind, .string e.method, .string e.target, .int .i64 e.minor, .slice s.fo e.fields.length s.fcap, .int .i64 e.length, .slice s.bo e.bytes.length s.bcap, .string e.pname, .string e.pfile, .string e.ptype, .slice s.po e.pbytes.length s.pcap, .int .i64 e.code]] w fun v w' => AddOut w S N es e v w' := by
  have k2 : (e.kind == 2) = false := beq_eq_false_iff_ne.2 hk
  obtain ⟨ps, hes, hO, hA, hI⟩ := h.own
  have HP : Hid (AddIn w S N ao ps es e s) := ⟨hes, hA, hI, hE⟩
  have HO := Hid.mk' hO
  obtain ⟨i0, hi0, hz0, hz1, hz2⟩ := info_parts info_ev
  have Hi := Hid.mk' hi0; have Hz0 := Hid.mk' hz0; have Hz1 := Hid.mk' hz1; have Hz2 := Hid.mk' hz2
  clear hi0 hz0 hz1 hz2 h hE hes hO hA hI hk
  go_enter Tryz.func25, Tryz.ntmps25
  go_wp2_with (at_builtin; go_loud (refine wpList_append_v rfl (.tmp 37) (.tmp 39) 27 rfl 0 47 i0 (.agg #[.int .i64 0, .string ⟨#[]⟩, .string ⟨#[]⟩, .int .i64 0, .slice none 0 0, .int .i64 0, .slice none 0 0, .string ⟨#[]⟩, .string ⟨#[]⟩, .string ⟨#[]⟩, .slice none 0 0, .int .i64 0]) 12 184 Tryz.underlying27 Hi.out Hz0.out Hz1.out Hz2.out rfl (by decide) rfl ((HO.out.alloc _).alloc _) rfl (EvD.made e s _ _ _ (by simp)) rfl (cells_one e s) (by omega) (by omega) (Nat.zero_le _) ?_; intro ao3 cap3 w3 hO3 hG3 hat3))
  go_ret
  exact AddOut.of HP.out hO3 hG3 hat3

set_option maxHeartbeats 1000000 in
set_option maxRecDepth 100000 in
/-- a body that is the first -/
theorem add_first (w : World) (S N : Nat → Prop) (e : EvD) (s : EvS) (hE : NewE w S N e s) (hk : e.kind = 2) :
    Calls Tryz.prog 25 #[.slice none 0 0, .agg #[.int .i64 e.kind, .string e.method, .string e.target, .int .i64 e.minor, .slice s.fo e.fields.length s.fcap, .int .i64 e.length, .slice s.bo e.bytes.length s.bcap, .string e.pname, .string e.pfile, .string e.ptype, .slice s.po e.pbytes.length s.pcap, .int .i64 e.code]] w fun v w' => AddOut w S N [] e v w' := by
  have k2 : (e.kind == 2) = true := beq_iff_eq.2 hk
  have HP : Hid (AddIn w S N none [] [] e s) := ⟨rfl, (fun a k => by cases k), (fun p hp => by cases hp), hE⟩
  have HO := Hid.mk' (OwnV.nil w 0 47 12)
  obtain ⟨i0, hi0, hz0, hz1, hz2⟩ := info_parts info_ev
  have Hi := Hid.mk' hi0; have Hz0 := Hid.mk' hz0; have Hz1 := Hid.mk' hz1; have Hz2 := Hid.mk' hz2
  clear hi0 hz0 hz1 hz2 hE hk
  go_enter Tryz.func25, Tryz.ntmps25
  go_wp2_with (at_builtin; go_loud (refine wpList_append_v rfl (.tmp 37) (.tmp 39) 27 rfl 0 47 i0 (.agg #[.int .i64 0, .string ⟨#[]⟩, .string ⟨#[]⟩, .int .i64 0, .slice none 0 0, .int .i64 0, .slice none 0 0, .string ⟨#[]⟩, .string ⟨#[]⟩, .string ⟨#[]⟩, .slice none 0 0, .int .i64 0]) 12 184 Tryz.underlying27 Hi.out Hz0.out Hz1.out Hz2.out rfl (by decide) rfl ((HO.out.alloc _).alloc _) rfl (EvD.made e s _ _ _ (by simp)) rfl (cells_one e s) (by omega) (by omega) (Nat.zero_le _) ?_; intro ao3 cap3 w3 hO3 hG3 hat3))
  go_ret
  exact AddOut.of (n := 0) HP.out hO3 hG3 hat3

set_option maxHeartbeats 1000000 in
set_option maxRecDepth 100000 in
/-- a body behind another thing -/
theorem add_behind (w : World) (S N : Nat → Prop) (ao : Option Addr) (cap m : Nat) (es : List EvD) (e : EvD) (s : EvS) (h : OutAt w S 47 5 ao cap es) (hE : NewE w S N e s) (hm : es.length = m + 1) (hl : m ≤ 1000000) (hk : e.kind = 2) (hx : ∀ x, es.getLast? = some x → x.kind ≠ 2) :
    Calls Tryz.prog 25 #[.slice ao (m + 1) cap, .agg #[.int .i64 e.kind, .string e.method, .string e.target, .int .i64 e.minor, .slice s.fo e.fields.length s.fcap, .int .i64 e.length, .slice s.bo e.bytes.length s.bcap, .string e.pname, .string e.pfile, .string e.ptype, .slice s.po e.pbytes.length s.pcap, .int .i64 e.code]] w fun v w' => AddOut w S N es e v w' := by
  have k2 : (e.kind == 2) = true := beq_iff_eq.2 hk
  obtain ⟨ps, hes, hO, hA, hI⟩ := h.own
  have hlen : ps.length = m + 1 := by rw [← hm, ← hes]; simp
  have hv := hO.isV
  obtain ⟨b, o, hao, hc⟩ := hv.lit (by rw [rowsV_length]; omega)
  have hcell : w.cell? ⟨b, o + m * 12, none⟩ = some (.int .i64 ps[m].1.kind) := hc (m * 12) _ (by
    have := rowsV_at ps m (by omega) 0 (by omega)
    rw [Nat.add_zero] at this
    rw [this]; rfl)
  have hkx : ps[m].1.kind ≠ 2 := hx _ (by
    have hq : ps[ps.length - 1]? = some ps[m] := by rw [show ps.length - 1 = m by omega, List.getElem?_eq_getElem (by omega)]
    rw [← hes, List.getLast?_map, List.getLast?_eq_getElem?, hq]; rfl)
  generalize ps[m].1.kind = kx at hcell hkx
  have kx2 : (kx == 2) = false := beq_eq_false_iff_ne.2 hkx
  have c0 : (w.alloc (.cells #[.int .i64 e.kind, .string e.method, .string e.target, .int .i64 e.minor, .slice s.fo e.fields.length s.fcap, .int .i64 e.length, .slice s.bo e.bytes.length s.bcap, .string e.pname, .string e.pfile, .string e.ptype, .slice s.po e.pbytes.length s.pcap, .int .i64 e.code] 47)).cell? ⟨b, o + m * 12, none⟩ = some (.int .i64 kx) := ((Below.refl _ w).alloc (Nat.le_refl _) _).cell (World.block_lt_of_cell? w _ hcell) ▸ hcell
  have hcap : m + 1 ≤ cap := by have := hv.1; rwa [hm] at this
  rw [hm] at hO
  subst hao
  have HP : Hid (AddIn w S N (some ⟨b, o, none⟩) ps es e s) := ⟨hes, hA, hI, hE⟩
  have HO := Hid.mk' hO; have HM := Hid.mk' hm
  obtain ⟨i0, hi0, hz0, hz1, hz2⟩ := info_parts info_ev
  have Hi := Hid.mk' hi0; have Hz0 := Hid.mk' hz0; have Hz1 := Hid.mk' hz1; have Hz2 := Hid.mk' hz2
  clear hi0 hz0 hz1 hz2 h hE hes hO hA hI hk hv hc hcell hkx hx hm hlen
  go_enter Tryz.func25, Tryz.ntmps25
  go_wp2_with (at_builtin; go_loud (refine wpList_append_v rfl (.tmp 37) (.tmp 39) 27 rfl 0 47 i0 (.agg #[.int .i64 0, .string ⟨#[]⟩, .string ⟨#[]⟩, .int .i64 0, .slice none 0 0, .int .i64 0, .slice none 0 0, .string ⟨#[]⟩, .string ⟨#[]⟩, .string ⟨#[]⟩, .slice none 0 0, .int .i64 0]) 12 184 Tryz.underlying27 Hi.out Hz0.out Hz1.out Hz2.out rfl (by decide) rfl ((HO.out.alloc _).alloc _) rfl (EvD.made e s _ _ _ (by simp)) rfl (cells_one e s) (by omega) (by omega) (Nat.zero_le _) ?_; intro ao3 cap3 w3 hO3 hG3 hat3))
  go_ret
  exact AddOut.of (n := m + 1) HP.out hO3 hG3 hat3 HM.out.symm

end Go.Proofs.YtbcmlolaihnalacGreatDoor

/- Package request, walked: add (bytes of a body more behind such). -/
namespace Go.Proofs.YtbcmlolaihnalacGreatDoor
open Go.RowKit

/-- the row's cell, and that it may be written -/
theorem row_cell {w : World} {g cap m : Nat} {xs : List Value} (h : OwnV w 0 47 12 (some ⟨g, 0, none⟩) cap (m + 1) xs) (j : Nat) (hj : j < 12) {u : Value} (hu : xs[m * 12 + j]? = some u) : w.cell? ⟨g, m * 12 + j, none⟩ = some u ∧ w.frozen? ⟨g, m * 12 + j, none⟩ = false :=
  ⟨(World.ownsRow.cellAt h (m * 12 + j) (by omega)).trans hu, World.ownsRow.frozenAt h _⟩

theorem set_other (w : World) {b j g : Nat} {u : Value} (h : w.cell? ⟨b, j, none⟩ = some u) (hn : b ≠ g) (i : Nat) (v : Value) : (w.setCell ⟨g, i, none⟩ v).cell? ⟨b, j, none⟩ = some u := by
  rw [World.cell?_of_block (heap_setCell_other w _ b v hn)]; exact h

theorem merge_out {w w3 : World} {S : Nat → Prop} {qs : List (EvD × EvS)} {x e : EvD} {sx : EvS} {g cap m g3 cap3 : Nat} {ob : Obj}
    (own : OwnV w 0 47 12 (some ⟨g, 0, none⟩) cap (m + 1) (rowsV (qs ++ [(x, sx)]))) (mem : S g)
    (ahead : ∀ p ∈ qs, InE w (fun k => (S k ∧ k ≠ g) ∧ lastB x sx ≠ some k) p.1 p.2)
    (fields : IsVS w (fun k => (S k ∧ k ≠ g) ∧ lastB x sx ≠ some k) sx.fo sx.fcap x.fields.length (pairV x.fields))
    (pbytes : IsBS w (fun k => (S k ∧ k ≠ g) ∧ lastB x sx ≠ some k) sx.po sx.pcap x.pbytes)
    (bytes : GrowB w (fun k => S k ∧ k ≠ g) 5 sx.bo sx.bcap x.bytes) (hlb : lastB x sx = blockOf sx.bo) (hq : qs.length = m)
    (hT : Turns (fun _ => False) w (w.alloc ob)) (hG : (w.alloc ob).drew.grownBy w3 (Value.slice sx.bo x.bytes.length sx.bcap).ownBlock)
    (hO : w3.ownsRow 0 5 1 (.slice (some ⟨g3, 0, none⟩) (x.bytes.length + e.bytes.length) cap3) (x.bytes.length + e.bytes.length) (byteV x.bytes ++ byteV e.bytes))
    (hA : (Value.slice sx.bo x.bytes.length sx.bcap).ownBlock = some g3 ∨ g3 = w.heap.size + 1) (hne : x.bytes ≠ [] := by assumption) :
    OutAt (w3.setCell ⟨g, m * 12 + 6, none⟩ (.slice (some ⟨g3, 0, none⟩) (x.bytes.length + e.bytes.length) cap3)) (orNew S w) 47 5 (some ⟨g, 0, none⟩) cap (qs.map (·.1) ++ [{ x with bytes := x.bytes ++ e.bytes }]) ∧ Turns S w (w3.setCell ⟨g, m * 12 + 6, none⟩ (.slice (some ⟨g3, 0, none⟩) (x.bytes.length + e.bytes.length) cap3)) := by
  subst hq
  rw [ownBlock_slice] at hG hA
  have hO' : OwnB w3 0 5 (some ⟨g3, 0, none⟩) cap3 (x.bytes ++ e.bytes) := by
    unfold OwnB; rw [byteV_append, List.length_append]; exact hO
  refine OutAt.merge own mem ahead fields pbytes bytes (Or.inl ⟨by simp [hne], hO', fun a ha => ?_⟩) (by simp) ?_
  · injection ha with ha; subst ha
    rcases hA with h | h
    · exact Or.inl (hlb.trans h)
    · exact Or.inr (by show w.heap.size ≤ g3; omega)
  · have h1 : Turns (fun k => lastB x sx = some k) w (w.alloc ob) := hT.mono (fun _ h => h.elim)
    have h2 : Turns (fun k => lastB x sx = some k) (w.alloc ob) (w.alloc ob).drew := Turns.of_below (below_drew _ _)
    have h3 : Turns (fun k => lastB x sx = some k) (w.alloc ob).drew w3 := Turns.of_grown hG (fun k h => hlb.trans h)
    exact h1.trans (h2.trans h3 (fun _ h _ => h)) (fun _ h _ => h)

set_option maxHeartbeats 2000000 in
set_option maxRecDepth 100000 in
theorem add_merge_at (w : World) (S : Nat → Prop) (ao : Option Addr) (cap m : Nat) (q : List EvD) (x : EvD) (e : EvD) (s : EvS) (h : OutAt w S 47 5 ao cap (q ++ [x])) (bb oo : Nat) (hbc : ∀ j (hj : j < e.bytes.length), w.cell? ⟨bb, oo + j, none⟩ = some (.int .u8 (e.bytes[j].toNat : Int))) (hm : q.length = m) (hl : m ≤ 1000000) (hk : e.kind = 2) (hx : x.kind = 2) (hb : x.bytes ≠ []) (he : e.bytes ≠ []) (hz : x.bytes.length + e.bytes.length ≤ 1000000) :
    Calls Tryz.prog 25 #[.slice ao (m + 1) cap, .agg #[.int .i64 e.kind, .string e.method, .string e.target, .int .i64 e.minor, .slice s.fo e.fields.length s.fcap, .int .i64 e.length, .slice (some ⟨bb, oo, none⟩) e.bytes.length s.bcap, .string e.pname, .string e.pfile, .string e.ptype, .slice s.po e.pbytes.length s.pcap, .int .i64 e.code]] w fun v w' => v = .returned (.slice ao (m + 1) cap) ∧ OutAt w' (orNew S w) 47 5 ao cap (q ++ [{ x with bytes := x.bytes ++ e.bytes }]) ∧ Turns S w w' := by
  have k2 : (e.kind == 2) = true := beq_iff_eq.2 hk
  obtain ⟨qs, sx, g, rfl, rfl, own, mem, ahead, fields, pbytes, bytes⟩ := h.last rfl
  have hqm : qs.length = m := by simpa using hm
  rw [hqm] at own
  have hcap : m + 1 ≤ cap := own.isV.1
  have hB : Below w.heap.size w (w.alloc (.cells #[.int .i64 e.kind, .string e.method, .string e.target, .int .i64 e.minor, .slice s.fo e.fields.length s.fcap, .int .i64 e.length, .slice (some ⟨bb, oo, none⟩) e.bytes.length s.bcap, .string e.pname, .string e.pfile, .string e.ptype, .slice s.po e.pbytes.length s.pcap, .int .i64 e.code] 47)) := (Below.refl _ w).alloc (Nat.le_refl _) _
  have hT := Turns.of_below (S := fun _ => False) hB
  have hlb : lastB x sx = blockOf sx.bo := by unfold lastB; rw [if_neg hb]
  obtain ⟨_, hown, hmem⟩ : x.bytes ≠ [] ∧ OwnB w 0 5 sx.bo sx.bcap x.bytes ∧ ∀ a, sx.bo = some a → S a.block ∧ a.block ≠ g := by
    rcases bytes with h | ⟨h, _⟩
    · exact h
    · exact absurd h hb
  have u0 : (rowsV (qs ++ [(x, sx)]))[m * 12 + 0]? = some (.int .i64 2) := by
    rw [rowsV_at _ m (by simp [hqm]) 0 (by omega)]; simp [← hqm, EvD.cells, hx]
  have u6 : (rowsV (qs ++ [(x, sx)]))[m * 12 + 6]? = some (.slice sx.bo x.bytes.length sx.bcap) := by
    rw [rowsV_at _ m (by simp [hqm]) 6 (by omega)]; simp [← hqm, EvD.cells]
  have own1 := own.stay hB
  have HOW := Hid.mk' own1
  have c0 := (row_cell own1 0 (by omega) u0).1
  have c6 := (row_cell own1 6 (by omega) u6).1
  rw [Nat.add_zero] at c0
  have HU6 := Hid.mk' u6
  have HB := Hid.mk' (hown.stay hB)
  have hN : ∀ W, Below (w.alloc (.cells #[.int .i64 e.kind, .string e.method, .string e.target, .int .i64 e.minor, .slice s.fo e.fields.length s.fcap, .int .i64 e.length, .slice (some ⟨bb, oo, none⟩) e.bytes.length s.bcap, .string e.pname, .string e.pfile, .string e.ptype, .slice s.po e.pbytes.length s.pcap, .int .i64 e.code] 47)).heap.size (w.alloc (.cells #[.int .i64 e.kind, .string e.method, .string e.target, .int .i64 e.minor, .slice s.fo e.fields.length s.fcap, .int .i64 e.length, .slice (some ⟨bb, oo, none⟩) e.bytes.length s.bcap, .string e.pname, .string e.pfile, .string e.ptype, .slice s.po e.pbytes.length s.pcap, .int .i64 e.code] 47)) W → ∀ j u, (byteV e.bytes)[j]? = some u → W.cell? (Addr.add ⟨bb, oo, none⟩ j) = some u := fun W hW j u hu => by
    have hj : j < e.bytes.length := by
      have := (List.getElem?_eq_some_iff.1 hu).1
      rwa [byteV_length] at this
    rw [byteV_at _ j hj] at hu
    injection hu with hu; subst hu
    have h1 := hbc j hj
    have h2 := (hB.cell (World.block_lt_of_cell? w _ h1)).trans h1
    rw [Addr.add_lit]
    exact (hW.cell (World.block_lt_of_cell? _ _ h2)).trans h2
  have HN : Hid (∀ n : Nat, ∀ j u, (byteV e.bytes)[j]? = some u → ((w.alloc (.cells #[.int .i64 e.kind, .string e.method, .string e.target, .int .i64 e.minor, .slice s.fo e.fields.length s.fcap, .int .i64 e.length, .slice (some ⟨bb, oo, none⟩) e.bytes.length s.bcap, .string e.pname, .string e.pfile, .string e.ptype, .slice s.po e.pbytes.length s.pcap, .int .i64 e.code] 47)).drewN n).cell? (Addr.add ⟨bb, oo, none⟩ j) = some u) := fun n => hN _ (drewN_below ⟨n, rfl⟩)
  have hK : ∀ W W3 : World, Below (w.alloc (.cells #[.int .i64 e.kind, .string e.method, .string e.target, .int .i64 e.minor, .slice s.fo e.fields.length s.fcap, .int .i64 e.length, .slice (some ⟨bb, oo, none⟩) e.bytes.length s.bcap, .string e.pname, .string e.pfile, .string e.ptype, .slice s.po e.pbytes.length s.pcap, .int .i64 e.code] 47)).heap.size (w.alloc (.cells #[.int .i64 e.kind, .string e.method, .string e.target, .int .i64 e.minor, .slice s.fo e.fields.length s.fcap, .int .i64 e.length, .slice (some ⟨bb, oo, none⟩) e.bytes.length s.bcap, .string e.pname, .string e.pfile, .string e.ptype, .slice s.po e.pbytes.length s.pcap, .int .i64 e.code] 47)) W → W.grownBy W3 (Value.slice sx.bo x.bytes.length sx.bcap).ownBlock → (W3.cell? ⟨g, m * 12 + 6, none⟩ = some (.slice sx.bo x.bytes.length sx.bcap) ∧ W3.cell? ⟨w.heap.size, 6, none⟩ = some (.slice (some ⟨bb, oo, none⟩) e.bytes.length s.bcap)) ∧ W3.frozen? ⟨g, m * 12 + 6, none⟩ = false := fun W W3 hW hG => by
    rw [ownBlock_slice] at hG
    have h1 := own1.stay hW
    have h2 : OwnV W3 0 47 12 (some ⟨g, 0, none⟩) cap (m + 1) (rowsV (qs ++ [(x, sx)])) := h1.kept hG (fun a ha hb2 => by
      injection ha with ha; subst ha
      cases hh : sx.bo with
      | none => rw [hh] at hb2; cases hb2
      | some a => rw [hh] at hb2; injection hb2 with hb2; exact (hmem a hh).2 hb2.symm)
    have h3 := row_cell h2 6 (by omega) u6
    have h4 : (w.alloc (.cells #[.int .i64 e.kind, .string e.method, .string e.target, .int .i64 e.minor, .slice s.fo e.fields.length s.fcap, .int .i64 e.length, .slice (some ⟨bb, oo, none⟩) e.bytes.length s.bcap, .string e.pname, .string e.pfile, .string e.ptype, .slice s.po e.pbytes.length s.pcap, .int .i64 e.code] 47)).cell? ⟨w.heap.size, 6, none⟩ = some (.slice (some ⟨bb, oo, none⟩) e.bytes.length s.bcap) := by rw [World.cell?_alloc_mark]; rfl
    have h5 := (hW.cell (World.block_lt_of_cell? _ _ h4)).trans h4
    refine ⟨⟨h3.1, hG.cell h5 (fun hb2 => ?_)⟩, h3.2⟩
    cases hh : sx.bo with
    | none => rw [hh] at hb2; cases hb2
    | some a =>
      rw [hh] at hb2; injection hb2 with hb2
      have hb3 : w.heap.size = a.block := hb2
      have := (hown.block a hh).2
      omega
  have HK := Hid.mk' hK
  have HE := Hid.mk' (And.intro own (And.intro mem (And.intro ahead (And.intro fields (And.intro pbytes bytes)))))
  have HLB := Hid.mk' hlb
  have HT := Hid.mk' hT
  obtain ⟨i0, hi0, hz0, hz1, hz2⟩ := info_parts info_u8
  have Hi := Hid.mk' hi0; have Hz0 := Hid.mk' hz0; have Hz1 := Hid.mk' hz1; have Hz2 := Hid.mk' hz2
  have hz' : x.bytes.length + e.bytes.length ≤ 140737488355328 := by omega
  have HZ := Hid.mk' hz'
  have HNG : Hid (w.heap.size ≠ g) := by
    have := (own.block _ rfl).2
    show w.heap.size ≠ g
    have h2 : g < w.heap.size := this
    omega
  have HL : Hid ((byteV e.bytes).length = e.bytes.length * 1 ∧ 0 < e.bytes.length ∧ x.bytes.length + e.bytes.length ≤ maxLen ∧ (x.bytes.length + e.bytes.length) * 1 ≤ 140737488355328) := ⟨by rw [byteV_length]; omega, List.length_pos_iff.2 he, by unfold maxLen; omega, by omega⟩
  have HQ := Hid.mk' hqm
  have m0 : (0 : Int) ≤ (m : Int) := by omega
  have m1 : (m : Int) < (m : Int) + 1 := by omega
  have m2 : ((m + 1 : Nat) : Int) - 1 = (m : Int) := by omega
  clear hi0 hz0 hz1 hz2 h hk hx u0 u6 own own1 mem ahead fields pbytes bytes hown hmem hK hlb hT hB hz hz' hm hqm hbc hN he
  go_enter Tryz.func25, Tryz.ntmps25
  go_wp2
  go_region_law
    ((refine step_append_lies _ (by rfl) _ _ _ (by rfl) 0 5 i0 (.int .u8 0) 1 1 Tryz.underlying22 Hi.out Hz0.out Hz1.out Hz2.out (by rfl) (by decide) (.slice sx.bo x.bytes.length sx.bcap) x.bytes.length (byteV x.bytes) (by rfl) (HB.out.stay (below_drew _ _)) ⟨bb, oo, none⟩ e.bytes.length s.bcap (byteV e.bytes) (by rfl) HL.out.1 (HN.out _) (byteV_one e.bytes) HL.out.2.1 HL.out.2.2.1 HL.out.2.2.2 (Nat.zero_le _) (w.heap.size + 1) (by simp) ?_; intro g3 cap3 w3 hown3 hgrow hat3 hlt3; have HF3 := Hid.mk' (HK.out _ _ (below_drew _ _) hgrow); have hfz := HF3.out.2; have hcl := HF3.out.1.1; have HG3 := Hid.mk' hgrow; have HO3 := Hid.mk' hown3; have HA3 := Hid.mk' hat3; clear hgrow hown3 hat3))
  all_goals (go_wp2; go_ret; refine ⟨rfl, ?_⟩; exact merge_out HE.out.1 HE.out.2.1 HE.out.2.2.1 HE.out.2.2.2.1 HE.out.2.2.2.2.1 HE.out.2.2.2.2.2 HLB.out HQ.out HT.out HG3.out HO3.out HA3.out)

theorem add_merge (w : World) (S : Nat → Prop) (ao : Option Addr) (cap m : Nat) (q : List EvD) (x : EvD) (e : EvD) (s : EvS) (h : OutAt w S 47 5 ao cap (q ++ [x])) (hE : IsB w s.bo s.bcap e.bytes) (hm : q.length = m) (hl : m ≤ 1000000) (hk : e.kind = 2) (hx : x.kind = 2) (hb : x.bytes ≠ []) (he : e.bytes ≠ []) (hz : x.bytes.length + e.bytes.length ≤ 1000000) :
    Calls Tryz.prog 25 #[.slice ao (m + 1) cap, .agg #[.int .i64 e.kind, .string e.method, .string e.target, .int .i64 e.minor, .slice s.fo e.fields.length s.fcap, .int .i64 e.length, .slice s.bo e.bytes.length s.bcap, .string e.pname, .string e.pfile, .string e.ptype, .slice s.po e.pbytes.length s.pcap, .int .i64 e.code]] w fun v w' => v = .returned (.slice ao (m + 1) cap) ∧ OutAt w' (orNew S w) 47 5 ao cap (q ++ [{ x with bytes := x.bytes ++ e.bytes }]) ∧ Turns S w w' := by
  obtain ⟨bb, oo, hbo, hbc⟩ := hE.lit (List.length_pos_iff.2 he)
  have := add_merge_at w S ao cap m q x e s h bb oo hbc hm hl hk hx hb he hz
  rw [hbo]
  exact this
end Go.Proofs.YtbcmlolaihnalacGreatDoor
