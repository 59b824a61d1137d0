/- Small texts, one behind the other: MemU, MemUB. -/
import Derived.Test.YtdclmpdjjkjfjaaGreatDoorPk5
import Derived.Test.YtdclmpdjjkjfjaaGreatDoorPk1
/- Uploads in memory, in a row, of whatever program: as they are read, and as an object holds them. -/
namespace Go.Proofs.YtdclmpdjjkjfjaaGreatDoor
open Go.RowKit

/-- where an upload's bytes lie -/
structure UpS where
  bo : Option Addr
  bcap : Nat
def upC (u : Sp.Up) (s : UpS) : List Value := [.int .i64 u.id, .int .i64 u.size, .string u.note, .slice s.bo u.bytes.length s.bcap, .int .i64 u.sent]
def upV (us : List (Sp.Up × UpS)) : List Value := us.flatMap fun x => upC x.1 x.2
theorem upV_append (a b : List (Sp.Up × UpS)) : upV (a ++ b) = upV a ++ upV b := by simp [upV]
theorem upV_one (u : Sp.Up) (s : UpS) : upV [(u, s)] = upC u s := by simp [upV]
theorem upV_length (us : List (Sp.Up × UpS)) : (upV us).length = us.length * 5 := by
  induction us with
  | nil => rfl
  | cons p t ih =>
    have e : (upC p.1 p.2).length = 5 := rfl
    simp only [upV, List.flatMap_cons, List.length_append, List.length_cons] at ih ⊢
    rw [ih, e]; omega
theorem upC_one (u : Sp.Up) (s : UpS) : ∀ v ∈ upC u s, v.oneCell' = true := by
  intro v hv
  simp only [upC, List.mem_cons, List.not_mem_nil, or_false] at hv
  rcases hv with rfl | rfl | rfl | rfl | rfl <;> rfl
theorem upV_at : ∀ (us : List (Sp.Up × UpS)) (i : Nat) (hi : i < us.length) (j : Nat), j < 5 → (upV us)[i * 5 + j]? = (upC us[i].1 us[i].2)[j]?
  | p :: t, 0, _, j, hj => by
    show (upC p.1 p.2 ++ upV t)[0 * 5 + j]? = _
    rw [List.getElem?_append_left (by rw [show (upC p.1 p.2).length = 5 from rfl]; omega), Nat.zero_mul, Nat.zero_add]
    rfl
  | p :: t, i + 1, hi, j, hj => by
    show (upC p.1 p.2 ++ upV t)[(i + 1) * 5 + j]? = _
    rw [List.getElem?_append_right (by rw [show (upC p.1 p.2).length = 5 from rfl]; omega), show (upC p.1 p.2).length = 5 from rfl, show (i + 1) * 5 + j - 5 = i * 5 + j by omega]
    exact upV_at t i (by simpa using hi) j hj
theorem upV_set (a : List (Sp.Up × UpS)) (x : Sp.Up × UpS) (b : List (Sp.Up × UpS)) (j : Nat) (v : Value) (hj : j < 5) : (upV (a ++ x :: b)).set (a.length * 5 + j) v = upV a ++ ((upC x.1 x.2).set j v ++ upV b) := by
  have e : upV (a ++ x :: b) = upV a ++ (upC x.1 x.2 ++ upV b) := by rw [upV_append]; simp [upV]
  rw [e, List.set_append_right _ _ (by rw [upV_length]; omega), upV_length, show a.length * 5 + j - a.length * 5 = j by omega, List.set_append_left _ _ (by rw [show (upC x.1 x.2).length = 5 from rfl]; exact hj)]
/-- uploads in a row, as they are read -/
def IsUps (w : World) (ao : Option Addr) (cap : Nat) (l : List Sp.Up) : Prop := ∃ us : List (Sp.Up × UpS), us.map (·.1) = l ∧ IsV w ao cap l.length (upV us) ∧ ∀ x ∈ us, IsB w x.2.bo x.2.bcap x.1.bytes
theorem IsUps.stay {w w' : World} {ao : Option Addr} {cap : Nat} {l : List Sp.Up} (h : IsUps w ao cap l) (hb : Below w.heap.size w w') : IsUps w' ao cap l := by
  obtain ⟨us, h1, h2, h3⟩ := h
  exact ⟨us, h1, h2.stay hb, fun x hx => (h3 x hx).stay hb⟩
theorem IsUps.nil (w : World) : IsUps w none 0 [] := ⟨[], rfl, IsV.nil w, fun q hq => by cases hq⟩
/-- an upload's cells -/
theorem IsUps.at_ {w : World} {ao : Option Addr} {cap : Nat} {l : List Sp.Up} (h : IsUps w ao cap l) (k : Nat) (hk : k < l.length) : ∃ (b o : Nat) (s : UpS), ao = some ⟨b, o, none⟩ ∧ w.cell? ⟨b, o + k * 5, none⟩ = some (.int .i64 l[k].id) ∧ w.cell? ⟨b, o + k * 5 + 1, none⟩ = some (.int .i64 l[k].size) ∧ w.cell? ⟨b, o + k * 5 + 2, none⟩ = some (.string l[k].note) ∧ w.cell? ⟨b, o + k * 5 + 3, none⟩ = some (.slice s.bo l[k].bytes.length s.bcap) ∧ w.cell? ⟨b, o + k * 5 + 4, none⟩ = some (.int .i64 l[k].sent) ∧ IsB w s.bo s.bcap l[k].bytes := by
  obtain ⟨us, rfl, hv, hb⟩ := h
  have hk' : k < us.length := by simpa using hk
  obtain ⟨b, o, rfl, hc⟩ := hv.lit (by rw [upV_length]; omega)
  have hq := hb _ (List.getElem_mem hk')
  have e0 := upV_at us k hk' 0 (by decide)
  have e1 := upV_at us k hk' 1 (by decide)
  have e2 := upV_at us k hk' 2 (by decide)
  have e3 := upV_at us k hk' 3 (by decide)
  have e4 := upV_at us k hk' 4 (by decide)
  refine ⟨b, o, us[k].2, rfl, ?_, ?_, ?_, ?_, ?_, ?_⟩
  · rw [List.getElem_map]; exact hc _ _ (by rw [Nat.add_zero] at e0; exact e0)
  · rw [List.getElem_map, Nat.add_assoc]; exact hc _ _ e1
  · rw [List.getElem_map, Nat.add_assoc]; exact hc _ _ e2
  · rw [List.getElem_map, Nat.add_assoc]; exact hc _ _ e3
  · rw [List.getElem_map, Nat.add_assoc]; exact hc _ _ e4
  · rw [List.getElem_map]; exact hq
/-- uploads in a row of an object's own, their bytes with them, all of it among the blocks S -/
def UpsAt (w : World) (S : Nat → Prop) (tU : Nat) (ao : Option Addr) (cap : Nat) (l : List Sp.Up) : Prop :=
  ∃ us : List (Sp.Up × UpS), us.map (·.1) = l ∧ OwnV w 0 tU 5 ao cap l.length (upV us) ∧ (∀ a, ao = some a → S a.block) ∧ ∀ x ∈ us, IsBS w (fun k => S k ∧ blockOf ao ≠ some k) x.2.bo x.2.bcap x.1.bytes
section
variable {w w' : World} {S S' : Nat → Prop} {tU : Nat} {ao : Option Addr} {cap : Nat} {l : List Sp.Up}
theorem UpsAt.nil (w : World) (S : Nat → Prop) (tU : Nat) : UpsAt w S tU none 0 [] := ⟨[], rfl, OwnV.nil _ _ _ _, fun a e => (by cases e), fun p hp => (by cases hp)⟩
theorem UpsAt.isUps (h : UpsAt w S tU ao cap l) : IsUps w ao cap l := by
  obtain ⟨us, h1, h2, _, h4⟩ := h
  exact ⟨us, h1, h2.isV, fun x hx => (h4 x hx).is⟩
theorem UpsAt.turns (h : UpsAt w S tU ao cap l) (ht : Turns S' w w') (hs : ∀ k, S k → ¬ S' k) : UpsAt w' S tU ao cap l := by
  obtain ⟨us, h1, h2, h3, h4⟩ := h
  exact ⟨us, h1, h2.turns ht (fun a e => hs _ (h3 a e)), h3, fun x hx => (h4 x hx).turns ht (fun k e => hs k e.1)⟩
theorem UpsAt.mono (h : UpsAt w S tU ao cap l) (hs : ∀ k, k < w.heap.size → S k → S' k) : UpsAt w S' tU ao cap l := by
  obtain ⟨us, h1, h2, h3, h4⟩ := h
  exact ⟨us, h1, h2, fun a e => hs _ (h2.block a e).2 (h3 a e), fun x hx => (h4 x hx).mono (fun k hk e => ⟨hs k hk e.1, e.2⟩)⟩
theorem UpsAt.stay (h : UpsAt w S tU ao cap l) (hb : Below w.heap.size w w') : UpsAt w' S tU ao cap l := h.turns (Turns.of_below (S := fun _ => False) hb) (fun _ _ e => e)
/-- one upload more, its cells in a block just made -/
theorem UpsAt.push {W : World} (h : UpsAt W S tU ao cap l) (ob : Obj) : ∃ xs, OwnV (W.alloc ob) 0 tU 5 ao cap l.length xs ∧
    ∀ ao' cap' w' (u : Sp.Up) (s : UpS) (N : Nat → Prop), IsBS W N s.bo s.bcap u.bytes → (∀ k, S k → ¬ N k) → OwnV w' 0 tU 5 ao' cap' (l.length + 1) (xs ++ upC u s) → (W.alloc ob).grownBy w' (blockOf ao) → (blockOf ao' = blockOf ao ∨ blockOf ao' = some (W.alloc ob).heap.size) → UpsAt w' (fun k => S k ∨ N k ∨ W.heap.size ≤ k) tU ao' cap' (l ++ [u]) ∧ Turns S W w' := by
  obtain ⟨us, h1, h2, h3, h4⟩ := h
  have hb : Below W.heap.size W (W.alloc ob) := (Below.refl _ _).alloc (Nat.le_refl _) _
  have hBS : ∀ k, blockOf ao = some k → S k := fun k e => by
    cases ao with
    | none => cases e
    | some a => injection e with e; subst e; exact h3 a rfl
  refine ⟨upV us, h2.stay hb, fun ao' cap' w' u s N hB hN hO' hG hat => ?_⟩
  have hT : Turns (fun k => blockOf ao = some k) W w' := (Turns.of_below hb).trans (Turns.of_grown hG (fun k e => e)) (fun _ e _ => e)
  have hne : ∀ k, k < W.heap.size → blockOf ao ≠ some k → blockOf ao' ≠ some k := fun k hk h e => by
    rcases hat with g | g
    · rw [g] at e; exact h e
    · rw [g, World.size_alloc] at e; injection e with e; omega
  refine ⟨⟨us ++ [(u, s)], by simp [h1], by rw [upV_append, upV_one, List.length_append]; exact hO', fun a e => ?_, fun x hx => ?_⟩, hT.mono (fun k e => hBS k e)⟩
  · subst e
    rcases hat with g | g
    · exact Or.inl (hBS _ (g.symm.trans rfl))
    · rw [World.size_alloc] at g; injection g with g; exact Or.inr (Or.inr (by omega))
  · rcases List.mem_append.1 hx with hx | hx
    · exact (((h4 x hx).mono (S' := fun k => (S k ∧ blockOf ao ≠ some k) ∧ k < W.heap.size) (fun k hk e => ⟨e, hk⟩)).turns hT (fun k e => e.1.2)).mono (fun k _ e => ⟨Or.inl e.1.1, hne k e.2 e.1.2⟩)
    · rw [List.mem_singleton.1 hx]
      have hno : ∀ k, N k → blockOf ao ≠ some k := fun k hk e => hN k (hBS k e) hk
      exact ((hB.mono (S' := fun k => N k ∧ k < W.heap.size) (fun k hk e => ⟨e, hk⟩)).turns hT (fun k e => hno k e.1)).mono (fun k _ e => ⟨Or.inr (Or.inl e.1), hne k e.2 (hno k e.1)⟩)
end
end Go.Proofs.YtdclmpdjjkjfjaaGreatDoor

/- Uploads in memory, of whatever program: a field of one of them turned. -/
namespace Go.Proofs.YtdclmpdjjkjfjaaGreatDoor
open Go.RowKit

theorem upV_sets : ∀ (us : List (Sp.Up × UpS)) (i : Nat) (hi : i < us.length) (j : Nat) (v : Value) (x : Sp.Up × UpS), j < 5 → (upC us[i].1 us[i].2).set j v = upC x.1 x.2 → (upV us).set (i * 5 + j) v = upV (us.set i x)
  | p :: t, 0, _, j, v, x, hj, h => by
    show (upC p.1 p.2 ++ upV t).set (0 * 5 + j) v = upC x.1 x.2 ++ upV t
    rw [Nat.zero_mul, Nat.zero_add, List.set_append_left _ _ (by rw [show (upC p.1 p.2).length = 5 from rfl]; exact hj)]
    exact congrArg (· ++ upV t) h
  | p :: t, i + 1, hi, j, v, x, hj, h => by
    show (upC p.1 p.2 ++ upV t).set ((i + 1) * 5 + j) v = upC p.1 p.2 ++ upV (t.set i x)
    rw [List.set_append_right _ _ (by rw [show (upC p.1 p.2).length = 5 from rfl]; omega), show (upC p.1 p.2).length = 5 from rfl, show (i + 1) * 5 + j - 5 = i * 5 + j by omega]
    exact congrArg (upC p.1 p.2 ++ ·) (upV_sets t i (by simpa using hi) j v x hj h)
section
variable {w w1 : World} {S N : Nat → Prop} {tU : Nat} {ao : Option Addr} {cap : Nat} {l : List Sp.Up}
/-- its row, and that its cells may be written -/
theorem UpsAt.row (h : UpsAt w S tU ao cap l) (i : Nat) (hi : i < l.length) : ∃ g, ao = some ⟨g, 0, none⟩ ∧ S g ∧ l.length ≤ cap ∧ ∀ j, j < 5 → (∃ v, w.cell? ⟨g, i * 5 + j, none⟩ = some v) ∧ w.frozen? ⟨g, i * 5 + j, none⟩ = false := by
  obtain ⟨us, rfl, h2, h3, _⟩ := h
  have hi' : i < us.length := by simpa using hi
  obtain ⟨g, rfl⟩ : ∃ g, ao = some ⟨g, 0, none⟩ := by
    rcases h2.2 with ⟨_, h⟩ | ⟨g, cap, cur, h, _⟩
    · omega
    · injection h with h _ _; exact ⟨g, h⟩
  refine ⟨g, rfl, h3 _ rfl, h2.isV.1, fun j hj => ⟨?_, World.ownsRow.frozenAt h2 _⟩⟩
  have e := upV_at us i hi' j hj
  rw [List.getElem?_eq_getElem (show j < (upC us[i].1 us[i].2).length from hj)] at e
  exact ⟨_, (World.ownsRow.cellAt h2 (i * 5 + j) (by omega)).trans e⟩
/-- a field that is not its bytes -/
theorem UpsAt.put {g i j : Nat} {v : Value} {u : Sp.Up} (h : UpsAt w S tU (some ⟨g, 0, none⟩) cap l) (hi : i < l.length) (hj : j < 5) (hv : ∀ s, (upC l[i] s).set j v = upC u s) (hb : u.bytes = l[i].bytes) : UpsAt (w.setCell ⟨g, i * 5 + j, none⟩ v) S tU (some ⟨g, 0, none⟩) cap (l.set i u) ∧ Turns (fun k => k = g) w (w.setCell ⟨g, i * 5 + j, none⟩ v) := by
  obtain ⟨us, rfl, h2, h3, h4⟩ := h
  have hi' : i < us.length := by simpa using hi
  have hS : Turns (fun k => k = g) w (w.setCell ⟨g, i * 5 + j, none⟩ v) := Turns.setCell (fun k => k = g) w _ _ rfl
  refine ⟨⟨us.set i (u, us[i].2), by rw [List.map_set], ?_, h3, fun x hx => ?_⟩, hS⟩
  · have own2 := (World.ownsRow.stored h2 (i * 5 + j) v).1
    rw [upV_sets us i hi' j v (u, us[i].2) hj (by have := hv us[i].2; rw [List.getElem_map] at this; exact this)] at own2
    rw [List.length_set]; exact own2
  · have ht : ∀ y : Sp.Up × UpS, IsBS w (fun k => S k ∧ blockOf (some ⟨g, 0, none⟩) ≠ some k) y.2.bo y.2.bcap y.1.bytes → IsBS (w.setCell ⟨g, i * 5 + j, none⟩ v) (fun k => S k ∧ blockOf (some ⟨g, 0, none⟩) ≠ some k) y.2.bo y.2.bcap y.1.bytes := fun y hy => hy.turns hS (fun k e e2 => e.2 (by subst e2; rfl))
    rcases List.mem_or_eq_of_mem_set hx with hx | hx
    · exact ht x (h4 x hx)
    · subst hx
      have := ht us[i] (h4 us[i] (List.getElem_mem hi'))
      rw [List.getElem_map] at hb
      show IsBS _ _ us[i].2.bo us[i].2.bcap u.bytes
      rw [hb]; exact this
/-- its bytes -/
theorem UpsAt.bytes {g i n : Nat} {bs : List UInt8} {bo : Option Addr} {bcap : Nat} (h : UpsAt w S tU (some ⟨g, 0, none⟩) cap l) (hi : i < l.length) (hB : IsBS w N bo bcap bs) (hN : ∀ k, N k → k ≠ g) (hn : n = bs.length) : UpsAt (w.setCell ⟨g, i * 5 + 3, none⟩ (.slice bo n bcap)) (fun k => S k ∨ N k) tU (some ⟨g, 0, none⟩) cap (l.set i { l[i] with bytes := bs }) ∧ Turns (fun k => k = g) w (w.setCell ⟨g, i * 5 + 3, none⟩ (.slice bo n bcap)) := by
  subst hn
  obtain ⟨us, rfl, h2, h3, h4⟩ := h
  have hi' : i < us.length := by simpa using hi
  have hS : Turns (fun k => k = g) w (w.setCell ⟨g, i * 5 + 3, none⟩ (.slice bo bs.length bcap)) := Turns.setCell (fun k => k = g) w _ _ rfl
  refine ⟨⟨us.set i ({ us[i].1 with bytes := bs }, ⟨bo, bcap⟩), by rw [List.map_set, List.getElem_map], ?_, fun a e => Or.inl (h3 a e), fun x hx => ?_⟩, hS⟩
  · have own2 := (World.ownsRow.stored h2 (i * 5 + 3) (.slice bo bs.length bcap)).1
    rw [upV_sets us i hi' 3 _ ({ us[i].1 with bytes := bs }, ⟨bo, bcap⟩) (by decide) rfl] at own2
    rw [List.length_set]; exact own2
  · rcases List.mem_or_eq_of_mem_set hx with hx | hx
    · exact ((h4 x hx).turns hS (fun k e e2 => e.2 (by subst e2; rfl))).mono (fun k _ e => ⟨Or.inl e.1, e.2⟩)
    · subst hx
      exact (hB.turns hS (fun k e e2 => hN k e e2)).mono (fun k _ e => ⟨Or.inr e, fun e2 => hN k e (by injection e2 with e2; exact e2.symm)⟩)
end
end Go.Proofs.YtdclmpdjjkjfjaaGreatDoor
