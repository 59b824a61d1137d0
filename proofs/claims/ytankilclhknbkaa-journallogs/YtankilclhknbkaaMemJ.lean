/- Entries in memory, in a row, of whatever program: as they are read, and as an object holds them. -/
import Derived.Test.YtankilclhknbkaaMemO
import Derived.Test.YtankilclhknbkaaPlainJB
namespace Go.Proofs.Ytankilclhknbkaa
open Go.RowKit

/-- where an entry's text lie -/
structure EnS where
  bo : Option Addr
  bcap : Nat
def enC (u : Jn.E) (s : EnS) : List Value := [.int .i64 u.kind, .int .i64 u.id, .int .i64 u.n, .slice s.bo u.text.length s.bcap]
def enV (us : List (Jn.E × EnS)) : List Value := us.flatMap fun x => enC x.1 x.2
theorem enV_append (a b : List (Jn.E × EnS)) : enV (a ++ b) = enV a ++ enV b := by simp [enV]
theorem enV_one (u : Jn.E) (s : EnS) : enV [(u, s)] = enC u s := by simp [enV]
theorem enV_length (us : List (Jn.E × EnS)) : (enV us).length = us.length * 4 := by
  induction us with
  | nil => rfl
  | cons p t ih =>
    have e : (enC p.1 p.2).length = 4 := rfl
    simp only [enV, List.flatMap_cons, List.length_append, List.length_cons] at ih ⊢
    rw [ih, e]; omega
theorem enC_one (u : Jn.E) (s : EnS) : ∀ v ∈ enC u s, v.oneCell' = true := by
  intro v hv
  simp only [enC, List.mem_cons, List.not_mem_nil, or_false] at hv
  rcases hv with rfl | rfl | rfl | rfl <;> rfl
theorem enV_at : ∀ (us : List (Jn.E × EnS)) (i : Nat) (hi : i < us.length) (j : Nat), j < 4 → (enV us)[i * 4 + j]? = (enC us[i].1 us[i].2)[j]?
  | p :: t, 0, _, j, hj => by
    show (enC p.1 p.2 ++ enV t)[0 * 4 + j]? = _
    rw [List.getElem?_append_left (by rw [show (enC p.1 p.2).length = 4 from rfl]; omega), Nat.zero_mul, Nat.zero_add]
    rfl
  | p :: t, i + 1, hi, j, hj => by
    show (enC p.1 p.2 ++ enV t)[(i + 1) * 4 + j]? = _
    rw [List.getElem?_append_right (by rw [show (enC p.1 p.2).length = 4 from rfl]; omega), show (enC p.1 p.2).length = 4 from rfl, show (i + 1) * 4 + j - 4 = i * 4 + j by omega]
    exact enV_at t i (by simpa using hi) j hj
/-- entries in a row, as they are read -/
def IsEns (w : World) (ao : Option Addr) (cap : Nat) (l : List Jn.E) : Prop := ∃ us : List (Jn.E × EnS), us.map (·.1) = l ∧ IsV w ao cap l.length (enV us) ∧ ∀ x ∈ us, IsB w x.2.bo x.2.bcap x.1.text
theorem IsEns.stay {w w' : World} {ao : Option Addr} {cap : Nat} {l : List Jn.E} (h : IsEns w ao cap l) (hb : Below w.heap.size w w') : IsEns w' ao cap l := by
  obtain ⟨us, h1, h2, h3⟩ := h
  exact ⟨us, h1, h2.stay hb, fun x hx => (h3 x hx).stay hb⟩
theorem IsEns.nil (w : World) : IsEns w none 0 [] := ⟨[], rfl, IsV.nil w, fun q hq => by cases hq⟩
/-- an entry's cells -/
theorem IsEns.at_ {w : World} {ao : Option Addr} {cap : Nat} {l : List Jn.E} (h : IsEns w ao cap l) (k : Nat) (hk : k < l.length) : ∃ (b o : Nat) (s : EnS), ao = some ⟨b, o, none⟩ ∧ w.cell? ⟨b, o + k * 4, none⟩ = some (.int .i64 l[k].kind) ∧ w.cell? ⟨b, o + k * 4 + 1, none⟩ = some (.int .i64 l[k].id) ∧ w.cell? ⟨b, o + k * 4 + 2, none⟩ = some (.int .i64 l[k].n) ∧ w.cell? ⟨b, o + k * 4 + 3, none⟩ = some (.slice s.bo l[k].text.length s.bcap) ∧ IsB w s.bo s.bcap l[k].text := by
  obtain ⟨us, rfl, hv, hb⟩ := h
  have hk' : k < us.length := by simpa using hk
  obtain ⟨b, o, rfl, hc⟩ := hv.lit (by rw [enV_length]; omega)
  have hq := hb _ (List.getElem_mem hk')
  have e0 := enV_at us k hk' 0 (by decide)
  have e1 := enV_at us k hk' 1 (by decide)
  have e2 := enV_at us k hk' 2 (by decide)
  have e3 := enV_at us k hk' 3 (by decide)
  refine ⟨b, o, us[k].2, rfl, ?_, ?_, ?_, ?_, ?_⟩
  · rw [List.getElem_map]; exact hc _ _ (by rw [Nat.add_zero] at e0; exact e0)
  · rw [List.getElem_map, Nat.add_assoc]; exact hc _ _ e1
  · rw [List.getElem_map, Nat.add_assoc]; exact hc _ _ e2
  · rw [List.getElem_map, Nat.add_assoc]; exact hc _ _ e3
  · rw [List.getElem_map]; exact hq
/-- entries in a row of an object's own, their texts with them, all of it among the blocks S -/
def EnsAt (w : World) (S : Nat → Prop) (tU : Nat) (ao : Option Addr) (cap : Nat) (l : List Jn.E) : Prop :=
  ∃ us : List (Jn.E × EnS), us.map (·.1) = l ∧ OwnV w 0 tU 4 ao cap l.length (enV us) ∧ (∀ a, ao = some a → S a.block) ∧ ∀ x ∈ us, IsBS w (fun k => S k ∧ blockOf ao ≠ some k) x.2.bo x.2.bcap x.1.text
section
variable {w w' : World} {S S' : Nat → Prop} {tU : Nat} {ao : Option Addr} {cap : Nat} {l : List Jn.E}
theorem EnsAt.nil (w : World) (S : Nat → Prop) (tU : Nat) : EnsAt w S tU none 0 [] := ⟨[], rfl, OwnV.nil _ _ _ _, fun a e => (by cases e), fun p hp => (by cases hp)⟩
theorem EnsAt.isEns (h : EnsAt w S tU ao cap l) : IsEns w ao cap l := by
  obtain ⟨us, h1, h2, _, h4⟩ := h
  exact ⟨us, h1, h2.isV, fun x hx => (h4 x hx).is⟩
theorem EnsAt.turns (h : EnsAt w S tU ao cap l) (ht : Turns S' w w') (hs : ∀ k, S k → ¬ S' k) : EnsAt w' S tU ao cap l := by
  obtain ⟨us, h1, h2, h3, h4⟩ := h
  exact ⟨us, h1, h2.turns ht (fun a e => hs _ (h3 a e)), h3, fun x hx => (h4 x hx).turns ht (fun k e => hs k e.1)⟩
theorem EnsAt.mono (h : EnsAt w S tU ao cap l) (hs : ∀ k, k < w.heap.size → S k → S' k) : EnsAt w S' tU ao cap l := by
  obtain ⟨us, h1, h2, h3, h4⟩ := h
  exact ⟨us, h1, h2, fun a e => hs _ (h2.block a e).2 (h3 a e), fun x hx => (h4 x hx).mono (fun k hk e => ⟨hs k hk e.1, e.2⟩)⟩
theorem EnsAt.stay (h : EnsAt w S tU ao cap l) (hb : Below w.heap.size w w') : EnsAt w' S tU ao cap l := h.turns (Turns.of_below (S := fun _ => False) hb) (fun _ _ e => e)
/-- one entry more, its cells in a block just made -/
theorem EnsAt.push {W : World} (h : EnsAt W S tU ao cap l) (ob : Obj) : ∃ xs, OwnV (W.alloc ob) 0 tU 4 ao cap l.length xs ∧
    ∀ ao' cap' w' (u : Jn.E) (s : EnS) (N : Nat → Prop), IsBS W N s.bo s.bcap u.text → (∀ k, S k → ¬ N k) → OwnV w' 0 tU 4 ao' cap' (l.length + 1) (xs ++ enC u s) → (W.alloc ob).grownBy w' (blockOf ao) → (blockOf ao' = blockOf ao ∨ blockOf ao' = some (W.alloc ob).heap.size) → EnsAt w' (fun k => S k ∨ N k ∨ W.heap.size ≤ k) tU ao' cap' (l ++ [u]) ∧ Turns S W w' := by
  obtain ⟨us, h1, h2, h3, h4⟩ := h
  have hb : Below W.heap.size W (W.alloc ob) := (Below.refl _ _).alloc (Nat.le_refl _) _
  have hBS : ∀ k, blockOf ao = some k → S k := fun k e => by
    cases ao with
    | none => cases e
    | some a => injection e with e; subst e; exact h3 a rfl
  refine ⟨enV us, h2.stay hb, fun ao' cap' w' u s N hB hN hO' hG hat => ?_⟩
  have hT : Turns (fun k => blockOf ao = some k) W w' := (Turns.of_below hb).trans (Turns.of_grown hG (fun k e => e)) (fun _ e _ => e)
  have hne : ∀ k, k < W.heap.size → blockOf ao ≠ some k → blockOf ao' ≠ some k := fun k hk h e => by
    rcases hat with g | g
    · rw [g] at e; exact h e
    · rw [g, World.size_alloc] at e; injection e with e; omega
  refine ⟨⟨us ++ [(u, s)], by simp [h1], by rw [enV_append, enV_one, List.length_append]; exact hO', fun a e => ?_, fun x hx => ?_⟩, hT.mono (fun k e => hBS k e)⟩
  · subst e
    rcases hat with g | g
    · exact Or.inl (hBS _ (g.symm.trans rfl))
    · rw [World.size_alloc] at g; injection g with g; exact Or.inr (Or.inr (by omega))
  · rcases List.mem_append.1 hx with hx | hx
    · exact (((h4 x hx).mono (S' := fun k => (S k ∧ blockOf ao ≠ some k) ∧ k < W.heap.size) (fun k hk e => ⟨e, hk⟩)).turns hT (fun k e => e.1.2)).mono (fun k _ e => ⟨Or.inl e.1.1, hne k e.2 e.1.2⟩)
    · rw [List.mem_singleton.1 hx]
      have hno : ∀ k, N k → blockOf ao ≠ some k := fun k hk e => hN k (hBS k e) hk
      exact ((hB.mono (S' := fun k => N k ∧ k < W.heap.size) (fun k hk e => ⟨e, hk⟩)).turns hT (fun k e => hno k e.1)).mono (fun k _ e => ⟨Or.inr (Or.inl e.1), hne k e.2 (hno k e.1)⟩)
end
end Go.Proofs.Ytankilclhknbkaa
