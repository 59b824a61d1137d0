/- Small texts, one behind the other: PlainRK, PlainRL. -/
import Derived.Test.YtbcmlolaihnalacGreatDoorPk5
/- Plain laws of requests of a stream: how many events bytes bring, and how long their bodies are. -/
namespace Go.Proofs.YtbcmlolaihnalacGreatDoor.Rq

/-- how many bytes of bodies there are -/
def bsum : List Ev → Nat
  | [] => 0
  | .body a :: r => a.length + bsum r
  | _ :: r => bsum r
def Full (l : List Ev) : Prop := ∀ a, Ev.body a ∈ l → a ≠ []
theorem bsum_append : ∀ a b : List Ev, bsum (a ++ b) = bsum a + bsum b
  | [], b => by simp [bsum]
  | .body x :: r, b => by rw [List.cons_append, bsum, bsum, bsum_append r b]; omega
  | .head _ :: r, b => bsum_append r b
  | .fin :: r, b => bsum_append r b
  | .fail _ :: r, b => bsum_append r b
theorem bsum_mem : ∀ (l : List Ev) (a : List UInt8), Ev.body a ∈ l → a.length ≤ bsum l
  | .body x :: r, a, h => by
    rw [bsum]
    rcases List.mem_cons.1 h with h | h
    · injection h with h; subst h; omega
    · have := bsum_mem r a h; omega
  | .head _ :: r, a, h => by
    rcases List.mem_cons.1 h with h | h
    · cases h
    · exact bsum_mem r a h
  | .fin :: r, a, h => by
    rcases List.mem_cons.1 h with h | h
    · cases h
    · exact bsum_mem r a h
  | .fail _ :: r, a, h => by
    rcases List.mem_cons.1 h with h | h
    · cases h
    · exact bsum_mem r a h
theorem join_bsum : ∀ l : List Ev, bsum (join l) = bsum l
  | [] => rfl
  | .head _ :: r => by rw [join]; exact join_bsum r
  | .fin :: r => by rw [join]; exact join_bsum r
  | .fail _ :: r => by rw [join]; exact join_bsum r
  | .body a :: r => by
    have ih := join_bsum r
    rw [join]
    cases hj : join r with
    | nil => rw [hj] at ih; simp only [bsum] at ih ⊢; omega
    | cons e q =>
      rw [hj] at ih
      cases e with
      | body b => simp only [bsum, List.length_append] at ih ⊢; omega
      | head _ => simp only [bsum] at ih ⊢; omega
      | fin => simp only [bsum] at ih ⊢; omega
      | fail _ => simp only [bsum] at ih ⊢; omega
theorem join_length : ∀ l : List Ev, (join l).length ≤ l.length
  | [] => Nat.le_refl _
  | .head _ :: r => by rw [join, List.length_cons, List.length_cons]; have := join_length r; omega
  | .fin :: r => by rw [join, List.length_cons, List.length_cons]; have := join_length r; omega
  | .fail _ :: r => by rw [join, List.length_cons, List.length_cons]; have := join_length r; omega
  | .body a :: r => by
    have ih := join_length r
    rw [join]
    cases hj : join r with
    | nil => rw [hj] at ih; simp only [List.length_cons, List.length_nil] at ih ⊢; omega
    | cons e q =>
      rw [hj] at ih
      cases e <;> simp only [List.length_cons] at ih ⊢ <;> omega
theorem join_full : ∀ l : List Ev, Full l → Full (join l)
  | [], h => h
  | .head _ :: r, h => by
    have ih := join_full r (fun a ha => h a (List.mem_cons_of_mem _ ha))
    rw [join]; intro a ha
    rcases List.mem_cons.1 ha with ha | ha
    · cases ha
    · exact ih a ha
  | .fin :: r, h => by
    have ih := join_full r (fun a ha => h a (List.mem_cons_of_mem _ ha))
    rw [join]; intro a ha
    rcases List.mem_cons.1 ha with ha | ha
    · cases ha
    · exact ih a ha
  | .fail _ :: r, h => by
    have ih := join_full r (fun a ha => h a (List.mem_cons_of_mem _ ha))
    rw [join]; intro a ha
    rcases List.mem_cons.1 ha with ha | ha
    · cases ha
    · exact ih a ha
  | .body x :: r, h => by
    have ih := join_full r (fun a ha => h a (List.mem_cons_of_mem _ ha))
    have hx : x ≠ [] := h x (List.mem_cons_self ..)
    rw [join]
    cases hj : join r with
    | nil =>
      intro a ha
      simp at ha; subst ha; exact hx
    | cons e q =>
      rw [hj] at ih
      have hone : ∀ a, Ev.body a ∈ Ev.body x :: e :: q → a ≠ [] := fun a ha => by
        rcases List.mem_cons.1 ha with ha | ha
        · injection ha with ha; subst ha; exact hx
        · exact ih a ha
      cases e with
      | body b =>
        intro a ha
        rcases List.mem_cons.1 ha with ha | ha
        · injection ha with ha; subst ha; simp [hx]
        · exact ih a (List.mem_cons_of_mem _ ha)
      | head _ => exact hone
      | fin => exact hone
      | fail _ => exact hone
theorem full_append {a b : List Ev} (h : Full a) (k : Full b) : Full (a ++ b) := fun x hx => by
  rcases List.mem_append.1 hx with hx | hx
  · exact h x hx
  · exact k x hx
/-- what a line's end brings -/
theorem line_few (s : St) (t : List UInt8) : (line s t).2.length ≤ 2 ∧ bsum (line s t).2 = 0 ∧ Full (line s t).2 := by
  have hf : ∀ c, ([Ev.fail c] : List Ev).length ≤ 2 ∧ bsum [Ev.fail c] = 0 ∧ Full [Ev.fail c] := fun c => ⟨by simp, rfl, fun a ha => by simp at ha⟩
  have h0 : ([] : List Ev).length ≤ 2 ∧ bsum [] = 0 ∧ Full [] := ⟨by simp, rfl, fun a ha => by cases ha⟩
  unfold line
  split
  · split
    · exact h0
    · split
      · exact hf _
      · exact h0
  · split
    · split
      · exact hf _
      · split
        · exact ⟨by simp, rfl, fun a ha => by simp at ha⟩
        · split
          · exact ⟨by simp, rfl, fun a ha => by simp at ha⟩
          · exact ⟨by simp, rfl, fun a ha => by simp at ha⟩
    · split
      · exact hf _
      · split
        · exact hf _
        · exact h0
theorem next_few (s : St) (c : UInt8) : (next s c).2.length ≤ 2 ∧ bsum (next s c).2 ≤ 1 ∧ Full (next s c).2 := by
  have hf : ∀ c, ([Ev.fail c] : List Ev).length ≤ 2 ∧ bsum [Ev.fail c] ≤ 1 ∧ Full [Ev.fail c] := fun c => ⟨by simp, Nat.zero_le _, fun a ha => by simp at ha⟩
  have h0 : ([] : List Ev).length ≤ 2 ∧ bsum [] ≤ 1 ∧ Full [] := ⟨by simp, Nat.zero_le _, fun a ha => by cases ha⟩
  unfold next
  split
  · exact h0
  · split
    · split
      · exact ⟨by simp, by simp [bsum], fun a ha => by simp at ha; subst ha; simp⟩
      · exact ⟨by simp, by simp [bsum], fun a ha => by simp at ha; subst ha; simp⟩
    · split
      · split
        · exact hf _
        · split
          · exact ⟨by simp, Nat.zero_le _, fun a ha => by simp at ha⟩
          · have := Ck.out_len s.ck c
            unfold some_
            split
            · exact h0
            · rename_i hne
              exact ⟨by simp, by simp only [bsum]; omega, fun a ha => by simp at ha; subst ha; exact hne⟩
      · split
        · exact hf _
        · split
          · have := line_few { s with ln := Ln.start } (Ln.text s.ln c)
            exact ⟨this.1, by omega, this.2.2⟩
          · exact h0
theorem outs_few : ∀ (l : List UInt8) (s : St), (outs s l).length ≤ 2 * l.length ∧ bsum (outs s l) ≤ l.length ∧ Full (outs s l)
  | [], s => ⟨by simp [outs], by simp [outs, bsum], fun a ha => by cases ha⟩
  | c :: t, s => by
    have h1 := next_few s c
    have h2 := outs_few t (next s c).1
    rw [outs, List.length_append, bsum_append, List.length_cons]
    exact ⟨by omega, by omega, full_append h1.2.2 h2.2.2⟩
/-- joined: how many, how long -/
theorem fed_few (s : St) (l : List UInt8) : (join (outs s l)).length ≤ 2 * l.length ∧ bsum (join (outs s l)) ≤ l.length ∧ Full (join (outs s l)) ∧ Joined (join (outs s l)) := by
  have h := outs_few l s
  have hl := join_length (outs s l)
  exact ⟨by omega, by rw [join_bsum]; exact h.2.1, join_full _ h.2.2, joined_join _⟩
end Go.Proofs.YtbcmlolaihnalacGreatDoor.Rq

/- Plain laws of requests of a stream: a length is never two, and just so many bytes of a body come as it says. -/
namespace Go.Proofs.YtbcmlolaihnalacGreatDoor

theorem Ck.trail_body : ∀ (f : Nat) (l : List UInt8) (n : Nat), (Ck.trail f l n).body = []
  | 0, _, _ => rfl
  | f + 1, l, n => by
    rw [Ck.trail]
    split
    · rfl
    · split
      · rfl
      · split
        · rfl
        · split
          · rfl
          · exact Ck.trail_body f _ _
theorem Ck.go_body : ∀ (f : Nat) (l : List UInt8) (n : Nat), n ≤ 4000 → n + (Ck.go f l n).body.length ≤ 4000
  | 0, _, n, h => h
  | f + 1, l, n, h => by
    rw [Ck.go]
    split
    · exact h
    · split
      · exact h
      · split
        · exact h
        · rename_i h4
          split
          · show n + (Ck.trail (f + 1) _ 0).body.length ≤ 4000
            rw [Ck.trail_body]; exact h
          · simp only
            split
            · rename_i hd
              show n + (l.drop (Ln.of l).size).length ≤ 4000
              omega
            · have ht : ((l.drop (Ln.of l).size).take (Ck.size (Ln.of l).text).1.toNat).length ≤ (Ck.size (Ln.of l).text).1.toNat := by rw [List.length_take]; omega
              split
              · show n + ((l.drop (Ln.of l).size).take (Ck.size (Ln.of l).text).1.toNat).length ≤ 4000
                omega
              · split
                · show n + ((l.drop (Ln.of l).size).take (Ck.size (Ln.of l).text).1.toNat).length ≤ 4000
                  omega
                · have ih := Ck.go_body f (((l.drop (Ln.of l).size).drop (Ck.size (Ln.of l).text).1.toNat).drop (Ln.of ((l.drop (Ln.of l).size).drop (Ck.size (Ln.of l).text).1.toNat)).size) (n + (Ck.size (Ln.of l).text).1.toNat) (by omega)
                  show n + (((l.drop (Ln.of l).size).take (Ck.size (Ln.of l).text).1.toNat) ++ _).length ≤ 4000
                  rw [List.length_append]
                  omega
theorem Ck.of_body (l : List UInt8) : (Ck.of l).body.length ≤ 4000 := by
  have := Ck.go_body (l.length + 1) l 0 (by omega)
  unfold Ck.of
  omega

namespace Rq
/-- a head says one length -/
structure HeadOk (h : Hd) : Prop where
  code : vals h.fields nCode ≠ [] → vals h.fields nSize = [] ∧ h.length = -1 ∧ (vals h.fields nCode).length ≤ 1
  most : h.length ≤ 4000
  size : ∀ v ∈ vals h.fields nSize, (Ch.number 10 9 v).2 = true ∧ (Ch.number 10 9 v).1 = h.length
/-- and so many bytes come -/
def Follow (h : Hd) : List Ev → Prop
  | .body b :: r => b.length ≤ 4000 ∧ (0 ≤ h.length → (b.length : Int) ≤ h.length) ∧ (r.head? = some .fin → 0 ≤ h.length → (b.length : Int) = h.length)
  | .fin :: _ => 0 ≤ h.length → h.length = 0
  | _ => True
def Okay : List Ev → Prop
  | [] => True
  | .head h :: r => HeadOk h ∧ Follow h r ∧ Okay r
  | _ :: r => Okay r
theorem sizes_all (f : List UInt8) : ∀ (l : List (List UInt8)) (n k : Int), sizes f n l = .inr k → (∀ v ∈ l, (Ch.number 10 9 v).2 = true ∧ v = f) ∧ (l = [] ∧ k = n ∨ l ≠ [] ∧ k = (Ch.number 10 9 f).1)
  | [], n, k, e => by injection e with e; exact ⟨fun v hv => (by cases hv), Or.inl ⟨rfl, e.symm⟩⟩
  | v :: t, n, k, e => by
    rw [sizes] at e
    split at e
    · cases e
    · rename_i h1
      split at e
      · cases e
      · rename_i h2
        have h2 : v = f := Decidable.not_not.1 h2
        have h1 : (Ch.number 10 9 v).2 = true := by cases hh : (Ch.number 10 9 v).2 with | true => rfl | false => exact absurd hh h1
        obtain ⟨a, b⟩ := sizes_all f t _ k e
        refine ⟨fun x hx => ?_, Or.inr ⟨by simp, ?_⟩⟩
        · rcases List.mem_cons.1 hx with rfl | hx
          · exact ⟨h1, h2⟩
          · exact a x hx
        · rcases b with ⟨_, b⟩ | ⟨_, b⟩
          · rw [b, h2]
          · exact b
theorem len_ok {h : Hd} {k : Int} (e : len h = .inr k) : HeadOk { h with length := k } := by
  have hr := len_range e
  unfold len at e
  split at e
  · cases e
  · split at e
    · rename_i hc
      split at e
      · cases e
      · rename_i hs
        split at e
        · cases e
        · rename_i h1
          injection e with e
          have hz : vals h.fields nSize = [] := by
            rcases Decidable.em (vals h.fields nSize = []) with g | g
            · exact g
            · exact absurd (Or.inl g) hs
          have hl : (vals h.fields nCode).length = 1 := by
            rcases Decidable.em ((vals h.fields nCode).length = 1) with g | g
            · exact g
            · exact absurd (Or.inl g) h1
          refine ⟨fun _ => ⟨hz, e.symm, by show (vals h.fields nCode).length ≤ 1; omega⟩, by show k ≤ 4000; omega, fun v hv => ?_⟩
          have hv : v ∈ vals h.fields nSize := hv
          rw [hz] at hv; cases hv
    · rename_i hc
      have hc : vals h.fields nCode = [] := Decidable.not_not.1 hc
      split at e
      · cases e
      · rename_i n hn
        split at e
        · cases e
        · injection e with e
          subst e
          obtain ⟨a, b⟩ := sizes_all _ _ _ _ hn
          refine ⟨fun g => absurd hc g, by show n ≤ 4000; omega, fun v hv => ?_⟩
          have hv : v ∈ vals h.fields nSize := hv
          obtain ⟨a1, a2⟩ := a v hv
          rcases b with ⟨b, _⟩ | ⟨_, b⟩
          · rw [b] at hv; cases hv
          · exact ⟨a1, by rw [a2]; exact b.symm⟩
theorem okay_some (b : List UInt8) (q : List Ev) (h : Okay q) : Okay (some_ b ++ q) := by
  unfold some_
  split
  · exact h
  · exact h
theorem follow_fin {h : Hd} {b : List UInt8} {q : List Ev} (h1 : b.length ≤ 4000) (h2 : 0 ≤ h.length → (b.length : Int) = h.length) : Follow h (some_ b ++ .fin :: q) := by
  unfold some_
  split
  · rename_i e; subst e; exact fun g => (h2 g).symm
  · exact ⟨h1, fun g => by have := h2 g; omega, fun _ g => h2 g⟩
theorem follow_open {h : Hd} {b : List UInt8} (h1 : b.length ≤ 4000) (h2 : 0 ≤ h.length → (b.length : Int) ≤ h.length) : Follow h (some_ b) := by
  unfold some_
  split
  · exact trivial
  · exact ⟨h1, h2, fun e => by cases e⟩
theorem follow_fail {h : Hd} {b : List UInt8} {c : Nat} (h1 : b.length ≤ 4000) (h2 : 0 ≤ h.length → (b.length : Int) ≤ h.length) : Follow h (some_ b ++ [.fail c]) := by
  unfold some_
  split
  · exact trivial
  · exact ⟨h1, h2, fun e => by cases e⟩
theorem go_okay : ∀ (f : Nat) (l : List UInt8), Okay (go f l).1
  | 0, _ => trivial
  | f + 1, l => by
    rw [go]
    split
    · exact trivial
    · split
      · exact trivial
      · split
        · exact go_okay f _
        · split
          · exact trivial
          · split
            · exact trivial
            · exact trivial
            · rename_i h _ fs r _
              split
              · exact trivial
              · rename_i k hk
                have hO := len_ok hk
                have hr := len_range hk
                split
                · rename_i h0
                  split
                  · rename_i hle
                    have ht : (r.take k.toNat).length = k.toNat := by rw [List.length_take]; omega
                    exact ⟨hO, follow_fin (by omega) (fun _ => by show ((r.take k.toNat).length : Int) = k; omega), okay_some _ _ (go_okay f _)⟩
                  · refine ⟨hO, follow_open (by omega) (fun _ => by show (r.length : Int) ≤ k; omega), ?_⟩
                    have := okay_some r [] trivial
                    rwa [List.append_nil] at this
                · rename_i h0
                  have hb := Ck.of_body r
                  simp only
                  split
                  · exact ⟨hO, follow_fail hb (fun g => absurd g h0), okay_some _ _ trivial⟩
                  · split
                    · refine ⟨hO, follow_open hb (fun g => absurd g h0), ?_⟩
                      have := okay_some (Ck.of r).body [] trivial
                      rwa [List.append_nil] at this
                    · exact ⟨hO, follow_fin hb (fun g => absurd g h0), okay_some _ _ (go_okay f _)⟩
theorem of_okay (l : List UInt8) : Okay (of l).1 := go_okay _ l
theorem okay_at : ∀ (es : List Ev), Okay es → ∀ (i : Nat) (h : Hd), es[i]? = some (.head h) → HeadOk h ∧ Follow h (es.drop (i + 1))
  | [], _, i, h, e => by simp at e
  | x :: r, k, 0, h, e => by
    simp at e; subst e
    exact ⟨k.1, k.2.1⟩
  | x :: r, k, i + 1, h, e => by
    have e' : r[i]? = some (.head h) := by simpa using e
    have k' : Okay r := by
      cases x with
      | head _ => exact k.2.2
      | body _ => exact k
      | fin => exact k
      | fail _ => exact k
    have := okay_at r k' i h e'
    rwa [List.drop_succ_cons]
end Rq
end Go.Proofs.YtbcmlolaihnalacGreatDoor
