/- Small texts, one behind the other: PlainRF, PlainRK, PlainRM. -/
import Derived.Test.YtkbeaehjagdnnacGreatDoorPk5
/- Plain laws of requests of a stream: an event more behind events that are joined; what a reader keeps is so; a first line by its blanks. -/
namespace Go.Proofs.YtkbeaehjagdnnacGreatDoor.Rq

/-- does it end with a body? -/
def tailed : List Ev → Bool
  | [] => false
  | [.body _] => true
  | _ :: r => tailed r
def Ev.isBody : Ev → Bool
  | .body _ => true
  | _ => false
theorem joined_snoc : ∀ (l : List Ev) (e : Ev), Joined l → (e.isBody = true → tailed l = false) → Joined (l ++ [e])
  | [], e, _, _ => by cases e <;> first | exact trivial | exact ⟨trivial, trivial⟩
  | [x], e, hl, h => by
    cases x with
    | body a =>
      cases e with
      | body b => exact absurd (h rfl) (by simp [tailed])
      | head _ => exact ⟨trivial, trivial⟩
      | fin => exact ⟨trivial, trivial⟩
      | fail _ => exact ⟨trivial, trivial⟩
    | head _ => cases e <;> first | exact trivial | exact ⟨trivial, trivial⟩
    | fin => cases e <;> first | exact trivial | exact ⟨trivial, trivial⟩
    | fail _ => cases e <;> first | exact trivial | exact ⟨trivial, trivial⟩
  | x :: y :: r, e, hl, h => by
    have h' : e.isBody = true → tailed (y :: r) = false := fun k => by
      have := h k
      cases x <;> exact this
    cases x with
    | body a => exact ⟨by have := hl.1; cases y <;> exact this, joined_snoc (y :: r) e hl.2 h'⟩
    | head _ => exact joined_snoc (y :: r) e hl h'
    | fin => exact joined_snoc (y :: r) e hl h'
    | fail _ => exact joined_snoc (y :: r) e hl h'
/-- an event more that stands behind no body, or is none -/
theorem join_plain {l : List Ev} {e : Ev} (hl : Joined l) (h : e.isBody = true → tailed l = false) : join (l ++ [e]) = l ++ [e] := join_of_joined _ (joined_snoc l e hl h)
theorem joined_same : ∀ (l : List Ev) (a b : List UInt8), Joined (l ++ [.body a]) → Joined (l ++ [.body b])
  | [], _, _, h => h
  | [.body x], _, _, h => absurd h.1 (fun k => k)
  | .body x :: y :: r, a, b, h => ⟨by have := h.1; cases y <;> exact this, joined_same (y :: r) a b h.2⟩
  | .head _ :: r, a, b, h => joined_same r a b h
  | .fin :: r, a, b, h => joined_same r a b h
  | .fail _ :: r, a, b, h => joined_same r a b h
/-- bytes of a body more behind such -/
theorem join_bodies {l : List Ev} {a b : List UInt8} (h : Joined (l ++ [.body a])) : join (l ++ [.body a] ++ [.body b]) = l ++ [.body (a ++ b)] := by
  rw [List.append_assoc, ← join_right]
  exact join_of_joined _ (joined_same l a (a ++ b) h)
theorem tailed_snoc : ∀ (l : List Ev) (e : Ev), tailed (l ++ [e]) = e.isBody
  | [], e => by cases e <;> rfl
  | x :: [], e => by cases x <;> cases e <;> rfl
  | x :: y :: r, e => by
    have := tailed_snoc (y :: r) e
    cases x <;> exact this
theorem tailed_split : ∀ (l : List Ev), tailed l = true → ∃ q a, l = q ++ [.body a]
  | [], h => by cases h
  | [x], h => by
    cases x with
    | body a => exact ⟨[], a, rfl⟩
    | head _ => cases h
    | fin => cases h
    | fail _ => cases h
  | x :: y :: r, h => by
    have : tailed (y :: r) = true := by cases x <;> exact h
    obtain ⟨q, a, e⟩ := tailed_split (y :: r) this
    exact ⟨x :: q, a, by rw [e]; rfl⟩
/-- events more, one behind the other -/
theorem join_two (l a b : List Ev) : join (join (l ++ a) ++ b) = join (l ++ (a ++ b)) := by rw [join_left, List.append_assoc]
theorem outs_snoc (s : St) (l : List UInt8) (c : UInt8) : outs s (l ++ [c]) = outs s l ++ (next (fold s l) c).2 := by
  rw [outs_append]; show _ ++ ((next (fold s l) c).2 ++ []) = _; rw [List.append_nil]
theorem fold_snoc (s : St) (l : List UInt8) (c : UInt8) : fold s (l ++ [c]) = (next (fold s l) c).1 := by rw [fold_append]; rfl

/-- a head that is read is so -/
structure HGood (h : Hd) : Prop where
  method : h.method.length ≤ 200
  target : h.target.length ≤ 200
  minor : h.minor ≤ 1
  many : h.fields.length ≤ 16
  fields : ∀ f ∈ h.fields, f.1.length ≤ 200 ∧ f.2.length ≤ 200
/-- what a reader keeps is so, whatever comes -/
structure Good (s : St) : Prop where
  ph : s.ph ≤ 4
  ln : Ln.Good s.ln
  lc : s.ln.code = 0
  hd : s.ph = 1 → HGood s.hd ∧ s.hd.length = 0
  left : s.ph = 2 → 0 < s.left ∧ s.left ≤ 4000
  ck : s.ph = 3 → Ck.Good s.ck ∧ s.ck.code = 0 ∧ s.ck.ph ≠ 4
def Ev.Fine : Ev → Prop
  | .head h => HGood h
  | _ => True
theorem Good.start : Good start := ⟨Nat.zero_le _, Ln.Good.start, rfl, (fun h => by cases h), (fun h => by cases h), (fun h => by cases h)⟩
theorem cut_len : ∀ (t w : List UInt8), (cut w t).length = t.count 32 + 1
  | [], w => rfl
  | c :: t, w => by
    rw [cut]
    by_cases h : c = 32
    · subst h
      rw [if_pos rfl, List.length_cons, cut_len t [], List.count_cons_self]
    · rw [if_neg h, cut_len t, List.count_cons_of_ne (by simpa using h)]
theorem split_at {c : UInt8} {t : List UInt8} (h : Fd.at_ c t < t.length) : t = t.take (Fd.at_ c t) ++ c :: t.drop (Fd.at_ c t + 1) := by
  conv => lhs; rw [← List.take_append_drop (Fd.at_ c t) t, List.drop_eq_getElem_cons h, Fd.at_here h]
theorem free_at {c : UInt8} {t : List UInt8} : ∀ b ∈ t.take (Fd.at_ c t), b ≠ c := by
  intro b hb
  obtain ⟨j, hj, rfl⟩ := List.mem_iff_getElem.1 hb
  rw [List.length_take] at hj
  rw [List.getElem_take]
  exact Fd.at_first (by omega) (by omega)
theorem count_at {c : UInt8} {t : List UInt8} (h : 0 < t.count c) : Fd.at_ c t < t.length := by
  rcases Nat.lt_or_ge (Fd.at_ c t) t.length with g | g
  · exact g
  · have := free_at (c := c) (t := t)
    rw [List.take_of_length_le g] at this
    have h0 : t.count c = 0 := List.count_eq_zero.2 (fun k => this c k rfl)
    omega
theorem count_rest {c : UInt8} {t : List UInt8} (h : Fd.at_ c t < t.length) : t.count c = (t.drop (Fd.at_ c t + 1)).count c + 1 := by
  conv => lhs; rw [split_at h]
  rw [List.count_append, List.count_cons_self, List.count_eq_zero.2 (fun k => free_at c k rfl)]
  omega
/-- a first line with just two blanks -/
theorem cut_three {t : List UInt8} (h : t.count 32 = 2) : Fd.at_ 32 t < t.length ∧ Fd.at_ 32 (t.drop (Fd.at_ 32 t + 1)) < (t.drop (Fd.at_ 32 t + 1)).length ∧
    cut [] t = [t.take (Fd.at_ 32 t), (t.drop (Fd.at_ 32 t + 1)).take (Fd.at_ 32 (t.drop (Fd.at_ 32 t + 1))), (t.drop (Fd.at_ 32 t + 1)).drop (Fd.at_ 32 (t.drop (Fd.at_ 32 t + 1)) + 1)] := by
  have h1 := count_at (c := 32) (t := t) (by omega)
  have e1 := count_rest h1
  have h2 := count_at (c := 32) (t := t.drop (Fd.at_ 32 t + 1)) (by omega)
  have e2 := count_rest h2
  refine ⟨h1, h2, ?_⟩
  have s1 := split_at h1
  have s2 := split_at h2
  have h3 : ∀ b ∈ (t.drop (Fd.at_ 32 t + 1)).drop (Fd.at_ 32 (t.drop (Fd.at_ 32 t + 1)) + 1), b ≠ 32 := fun b hb e => by
    have : 0 < ((t.drop (Fd.at_ 32 t + 1)).drop (Fd.at_ 32 (t.drop (Fd.at_ 32 t + 1)) + 1)).count 32 := List.count_pos_iff.2 (e ▸ hb)
    omega
  conv => lhs; rw [s1]
  rw [cut_word _ [] _ free_at, s2, cut_word _ [] _ free_at, cut_end _ [] h3]
  simp only [List.nil_append]
  rw [← s2]
theorem first_no {t : List UInt8} (h : t.count 32 ≠ 2) : first t = .inl 5 := by
  have := cut_len t []
  unfold first
  split
  · rename_i e; rw [e] at this; simp at this; omega
  · rfl
/-- a first line by its three pieces -/
def firstBy (m g v : List UInt8) : Nat ⊕ Hd :=
  if Ch.isToken m = false then .inl 6
  else if g.head? ≠ some 47 ∨ 9 ∈ g then .inl 5
  else if v = [72, 84, 84, 80, 47, 49, 46, 49] then .inr ⟨m, g, 1, [], 0⟩
  else if v = [72, 84, 84, 80, 47, 49, 46, 48] then .inr ⟨m, g, 0, [], 0⟩
  else .inl 11
theorem first_three {t : List UInt8} (h : t.count 32 = 2) : first t = firstBy (t.take (Fd.at_ 32 t)) ((t.drop (Fd.at_ 32 t + 1)).take (Fd.at_ 32 (t.drop (Fd.at_ 32 t + 1)))) ((t.drop (Fd.at_ 32 t + 1)).drop (Fd.at_ 32 (t.drop (Fd.at_ 32 t + 1)) + 1)) := by
  unfold first
  rw [(cut_three h).2.2]
  rfl
theorem first_good {t : List UInt8} {h : Hd} (ht : t.length ≤ 200) (e : first t = .inr h) : HGood h ∧ h.length = 0 := by
  by_cases hc : t.count 32 = 2
  · rw [first_three hc] at e
    unfold firstBy at e
    have l1 : (t.take (Fd.at_ 32 t)).length ≤ 200 := by rw [List.length_take]; omega
    have l2 : ((t.drop (Fd.at_ 32 t + 1)).take (Fd.at_ 32 (t.drop (Fd.at_ 32 t + 1)))).length ≤ 200 := by rw [List.length_take, List.length_drop]; omega
    split at e
    · cases e
    · split at e
      · cases e
      · split at e
        · injection e with e; subst e
          exact ⟨⟨l1, l2, Nat.le_refl _, Nat.zero_le _, fun f hf => by cases hf⟩, rfl⟩
        · split at e
          · injection e with e; subst e
            exact ⟨⟨l1, l2, Nat.zero_le _, Nat.zero_le _, fun f hf => by cases hf⟩, rfl⟩
          · cases e
  · rw [first_no hc] at e; cases e
theorem sizes_le : ∀ (f : List UInt8) (l : List (List UInt8)) (n k : Int), 0 ≤ n → sizes f n l = .inr k → 0 ≤ k
  | f, [], n, k, h0, e => by injection e with e; omega
  | f, v :: t, n, k, h0, e => by
    rw [sizes] at e
    split at e
    · cases e
    · split at e
      · cases e
      · refine sizes_le f t _ k ?_ e
        have : (Ch.number 10 9 v).1 = 0 ∨ (Ch.number 10 9 v).1 = Ch.numOf 10 v ∧ v.all (Ch.dig 10) = true ∧ v.length ≤ 9 := by
          by_cases g1 : v = [] ∨ (9 : Int) < v.length
          · rw [Ch.number_short 10 9 v g1]; exact Or.inl rfl
          · cases g2 : v.all (Ch.dig 10)
            · rw [Ch.number_no 10 9 v g2]; exact Or.inl rfl
            · rw [Ch.number_yes 10 9 v (fun e => g1 (Or.inl e)) (fun e => g1 (Or.inr e)) g2]
              exact Or.inr ⟨rfl, rfl, by omega⟩
        rcases this with g | ⟨g, g2, g3⟩
        · omega
        · rw [g]; exact (Ch.numOf_bound 10 (by omega) (by omega) v g2 g3).1
/-- a length that is told -/
theorem len_range {h : Hd} {k : Int} (e : len h = .inr k) : k = -1 ∨ 0 ≤ k ∧ k ≤ 4000 := by
  unfold len at e
  split at e
  · cases e
  · split at e
    · split at e
      · cases e
      · split at e
        · cases e
        · injection e with e; exact Or.inl e.symm
    · split at e
      · cases e
      · rename_i n hn
        split at e
        · cases e
        · injection e with e; subst e
          exact Or.inr ⟨sizes_le _ _ 0 _ (by omega) hn, by omega⟩
theorem Good.dead {s : St} (h : Good s) : Good (dead s) := ⟨Nat.le_refl _, h.ln, h.lc, (fun e => by cases e), (fun e => by cases e), (fun e => by cases e)⟩
theorem Good.line {s : St} (h : Good s) (hp : s.ph = 0 ∨ s.ph = 1) (t : List UInt8) (ht : t.length ≤ 200) : Good (line s t).1 ∧ ∀ e ∈ (line s t).2, e.Fine := by
  unfold Rq.line
  by_cases h0 : s.ph = 0
  · rw [if_pos h0]
    by_cases hn : t = []
    · rw [if_pos hn]; exact ⟨h, fun e he => by cases he⟩
    · rw [if_neg hn]
      cases hf : first t with
      | inl c => exact ⟨h.dead, fun e he => by simp at he; subst he; exact trivial⟩
      | inr hd => exact ⟨⟨by show 1 ≤ 4; omega, h.ln, h.lc, fun _ => first_good ht hf, (fun e => by cases e), (fun e => by cases e)⟩, fun e he => by cases he⟩
  · rw [if_neg h0]
    obtain ⟨hg, hl0⟩ := h.hd (by omega)
    have hH : ∀ k : Int, HGood { s.hd with length := k } := fun k => ⟨hg.method, hg.target, hg.minor, hg.many, hg.fields⟩
    by_cases hn : t = []
    · rw [if_pos hn]
      cases hk : len s.hd with
      | inl c => exact ⟨h.dead, fun e he => by simp at he; subst he; exact trivial⟩
      | inr k =>
        have hr := len_range hk
        simp only
        by_cases k0 : k = 0
        · rw [if_pos k0]
          refine ⟨⟨Nat.zero_le _, h.ln, h.lc, (fun e => by cases e), (fun e => by cases e), (fun e => by cases e)⟩, fun e he => ?_⟩
          simp at he
          rcases he with rfl | rfl
          · exact hH k
          · exact trivial
        · rw [if_neg k0]
          by_cases k1 : 0 < k
          · rw [if_pos k1]
            refine ⟨⟨by show 2 ≤ 4; omega, h.ln, h.lc, (fun e => by cases e), fun _ => ⟨by show 0 < k.toNat; omega, by show k.toNat ≤ 4000; omega⟩, (fun e => by cases e)⟩, fun e he => ?_⟩
            simp at he
            subst he
            exact hH k
          · rw [if_neg k1]
            refine ⟨⟨by show 3 ≤ 4; omega, h.ln, h.lc, (fun e => by cases e), (fun e => by cases e), fun _ => ⟨Ck.Good.start, rfl, by show (0 : Nat) ≠ 4; omega⟩⟩, fun e he => ?_⟩
            simp at he
            subst he
            exact hH k
    · rw [if_neg hn]
      split
      · exact ⟨h.dead, fun e he => by simp at he; subst he; exact trivial⟩
      · rename_i h16
        split
        · exact ⟨h.dead, fun e he => by simp at he; subst he; exact trivial⟩
        · have := Fd.of_length t
          refine ⟨⟨h.ph, h.ln, h.lc, fun _ => ⟨⟨hg.method, hg.target, hg.minor, ?_, fun f hf => ?_⟩, hl0⟩, h.left, h.ck⟩, fun e he => by cases he⟩
          · have := hg.many
            show (s.hd.fields ++ [((Fd.of t).name, (Fd.of t).value)]).length ≤ 16
            rw [List.length_append]; simp; omega
          · rcases List.mem_append.1 hf with hf | hf
            · exact hg.fields f hf
            · simp at hf; subst hf; exact ⟨Nat.le_trans this.1 ht, Nat.le_trans this.2 ht⟩
theorem text_short {s : Ln.St} {c : UInt8} (h : Ln.Good s) : (Ln.text s c).length ≤ 200 ∧ ∀ b ∈ Ln.text s c, Ch.visible b.toNat = true := by
  unfold Ln.text
  split
  · exact ⟨h.short, h.seen⟩
  · exact ⟨Nat.zero_le _, fun b hb => by cases hb⟩
theorem Good.next {s : St} (h : Good s) (c : UInt8) : Good (next s c).1 ∧ ∀ e ∈ (next s c).2, e.Fine := by
  have h0 : Good { s with ph := 0 } := ⟨Nat.zero_le _, h.ln, h.lc, (fun e => by cases e), (fun e => by cases e), (fun e => by cases e)⟩
  unfold Rq.next
  split
  · exact ⟨h, fun e he => by cases he⟩
  · split
    · rename_i h2
      obtain ⟨l1, l2⟩ := h.left h2
      split
      · refine ⟨⟨Nat.zero_le _, h.ln, h.lc, (fun e => by cases e), (fun e => by cases e), (fun e => by cases e)⟩, fun e he => ?_⟩
        simp at he
        rcases he with rfl | rfl <;> exact trivial
      · refine ⟨⟨h.ph, h.ln, h.lc, h.hd, fun _ => ⟨by show 0 < s.left - 1; omega, by show s.left - 1 ≤ 4000; omega⟩, h.ck⟩, fun e he => ?_⟩
        simp at he
        subst he; exact trivial
    · split
      · rename_i h3
        obtain ⟨k1, k2, k3⟩ := h.ck h3
        split
        · exact ⟨h.dead, fun e he => by simp at he; subst he; exact trivial⟩
        · split
          · exact ⟨h0, fun e he => by simp at he; subst he; exact trivial⟩
          · rename_i hA hB
            refine ⟨⟨h.ph, h.ln, h.lc, h.hd, h.left, fun _ => ⟨k1.next c, by show (Ck.next s.ck c).code = 0; omega, hB⟩⟩, fun e he => ?_⟩
            unfold some_ at he
            split at he
            · cases he
            · simp at he; subst he; exact trivial
      · rename_i h4 h2 h3
        have hp := h.ph
        split
        · exact ⟨h.dead, fun e he => by simp at he; subst he; exact trivial⟩
        · split
          · have hs : Good { s with ln := Ln.start } := ⟨h.ph, Ln.Good.start, rfl, h.hd, h.left, h.ck⟩
            exact hs.line (by show s.ph = 0 ∨ s.ph = 1; omega) _ (text_short h.ln).1
          · exact ⟨⟨h.ph, Ln.next_good h.ln, by rename_i a _; show (Ln.next s.ln c).code = 0; omega, h.hd, h.left, h.ck⟩, fun e he => by cases he⟩
theorem Good.fold : ∀ (l : List UInt8) {s : St}, Good s → Good (fold s l)
  | [], _, h => h
  | c :: t, s, h => Good.fold t (s := (Rq.next s c).1) (h.next c).1
theorem fine_outs : ∀ (l : List UInt8) {s : St}, Good s → ∀ e ∈ outs s l, e.Fine
  | [], _, _ => fun e he => by cases he
  | c :: t, s, h => fun e he => by
    rcases List.mem_append.1 he with he | he
    · exact (h.next c).2 e he
    · exact fine_outs t (h.next c).1 e he
theorem fine_join : ∀ (l : List Ev), (∀ e ∈ l, e.Fine) → ∀ e ∈ join l, e.Fine
  | [], _ => fun e he => by cases he
  | .head h :: r, k => fun e he => by
    rw [join] at he
    rcases List.mem_cons.1 he with rfl | he
    · exact k _ (List.mem_cons_self ..)
    · exact fine_join r (fun x hx => k x (List.mem_cons_of_mem _ hx)) e he
  | .fin :: r, k => fun e he => by
    rw [join] at he
    rcases List.mem_cons.1 he with rfl | he
    · exact trivial
    · exact fine_join r (fun x hx => k x (List.mem_cons_of_mem _ hx)) e he
  | .fail c :: r, k => fun e he => by
    rw [join] at he
    rcases List.mem_cons.1 he with rfl | he
    · exact trivial
    · exact fine_join r (fun x hx => k x (List.mem_cons_of_mem _ hx)) e he
  | .body a :: r, k => fun e he => by
    have ih := fine_join r (fun x hx => k x (List.mem_cons_of_mem _ hx))
    rw [join] at he
    cases hj : join r with
    | nil => rw [hj] at he; simp at he; subst he; exact trivial
    | cons y q =>
      rw [hj] at he ih
      cases y with
      | body b =>
        rcases List.mem_cons.1 he with rfl | he
        · exact trivial
        · exact ih e (List.mem_cons_of_mem _ he)
      | head h =>
        rcases List.mem_cons.1 he with rfl | he
        · exact trivial
        · exact ih e he
      | fin =>
        rcases List.mem_cons.1 he with rfl | he
        · exact trivial
        · exact ih e he
      | fail c =>
        rcases List.mem_cons.1 he with rfl | he
        · exact trivial
        · exact ih e he
end Go.Proofs.YtkbeaehjagdnnacGreatDoor.Rq

/- Plain laws of requests of a stream: how many events bytes bring, and how long their bodies are. -/
namespace Go.Proofs.YtkbeaehjagdnnacGreatDoor.Rq

/-- how many bytes of bodies there are -/
def bsum : List Ev → Nat
  | [] => 0
  | .body a :: r => a.length + bsum r
  | _ :: r => bsum r
def Full (l : List Ev) : Prop := ∀ a, Ev.body a ∈ l → a ≠ []
theorem bsum_append : ∀ a b : List Ev, bsum (a ++ b) = bsum a + bsum b
  | [], b => by simp [bsum]
  | .body x :: r, b => by rw [List.cons_append, bsum, bsum, bsum_append r b]; omega
  | .head _ :: r, b => bsum_append r b
  | .fin :: r, b => bsum_append r b
  | .fail _ :: r, b => bsum_append r b
theorem bsum_mem : ∀ (l : List Ev) (a : List UInt8), Ev.body a ∈ l → a.length ≤ bsum l
  | .body x :: r, a, h => by
    rw [bsum]
    rcases List.mem_cons.1 h with h | h
    · injection h with h; subst h; omega
    · have := bsum_mem r a h; omega
  | .head _ :: r, a, h => by
    rcases List.mem_cons.1 h with h | h
    · cases h
    · exact bsum_mem r a h
  | .fin :: r, a, h => by
    rcases List.mem_cons.1 h with h | h
    · cases h
    · exact bsum_mem r a h
  | .fail _ :: r, a, h => by
    rcases List.mem_cons.1 h with h | h
    · cases h
    · exact bsum_mem r a h
theorem join_bsum : ∀ l : List Ev, bsum (join l) = bsum l
  | [] => rfl
  | .head _ :: r => by rw [join]; exact join_bsum r
  | .fin :: r => by rw [join]; exact join_bsum r
  | .fail _ :: r => by rw [join]; exact join_bsum r
  | .body a :: r => by
    have ih := join_bsum r
    rw [join]
    cases hj : join r with
    | nil => rw [hj] at ih; simp only [bsum] at ih ⊢; omega
    | cons e q =>
      rw [hj] at ih
      cases e with
      | body b => simp only [bsum, List.length_append] at ih ⊢; omega
      | head _ => simp only [bsum] at ih ⊢; omega
      | fin => simp only [bsum] at ih ⊢; omega
      | fail _ => simp only [bsum] at ih ⊢; omega
theorem join_length : ∀ l : List Ev, (join l).length ≤ l.length
  | [] => Nat.le_refl _
  | .head _ :: r => by rw [join, List.length_cons, List.length_cons]; have := join_length r; omega
  | .fin :: r => by rw [join, List.length_cons, List.length_cons]; have := join_length r; omega
  | .fail _ :: r => by rw [join, List.length_cons, List.length_cons]; have := join_length r; omega
  | .body a :: r => by
    have ih := join_length r
    rw [join]
    cases hj : join r with
    | nil => rw [hj] at ih; simp only [List.length_cons, List.length_nil] at ih ⊢; omega
    | cons e q =>
      rw [hj] at ih
      cases e <;> simp only [List.length_cons] at ih ⊢ <;> omega
theorem join_full : ∀ l : List Ev, Full l → Full (join l)
  | [], h => h
  | .head _ :: r, h => by
    have ih := join_full r (fun a ha => h a (List.mem_cons_of_mem _ ha))
    rw [join]; intro a ha
    rcases List.mem_cons.1 ha with ha | ha
    · cases ha
    · exact ih a ha
  | .fin :: r, h => by
    have ih := join_full r (fun a ha => h a (List.mem_cons_of_mem _ ha))
    rw [join]; intro a ha
    rcases List.mem_cons.1 ha with ha | ha
    · cases ha
    · exact ih a ha
  | .fail _ :: r, h => by
    have ih := join_full r (fun a ha => h a (List.mem_cons_of_mem _ ha))
    rw [join]; intro a ha
    rcases List.mem_cons.1 ha with ha | ha
    · cases ha
    · exact ih a ha
  | .body x :: r, h => by
    have ih := join_full r (fun a ha => h a (List.mem_cons_of_mem _ ha))
    have hx : x ≠ [] := h x (List.mem_cons_self ..)
    rw [join]
    cases hj : join r with
    | nil =>
      intro a ha
      simp at ha; subst ha; exact hx
    | cons e q =>
      rw [hj] at ih
      have hone : ∀ a, Ev.body a ∈ Ev.body x :: e :: q → a ≠ [] := fun a ha => by
        rcases List.mem_cons.1 ha with ha | ha
        · injection ha with ha; subst ha; exact hx
        · exact ih a ha
      cases e with
      | body b =>
        intro a ha
        rcases List.mem_cons.1 ha with ha | ha
        · injection ha with ha; subst ha; simp [hx]
        · exact ih a (List.mem_cons_of_mem _ ha)
      | head _ => exact hone
      | fin => exact hone
      | fail _ => exact hone
theorem full_append {a b : List Ev} (h : Full a) (k : Full b) : Full (a ++ b) := fun x hx => by
  rcases List.mem_append.1 hx with hx | hx
  · exact h x hx
  · exact k x hx
/-- what a line's end brings -/
theorem line_few (s : St) (t : List UInt8) : (line s t).2.length ≤ 2 ∧ bsum (line s t).2 = 0 ∧ Full (line s t).2 := by
  have hf : ∀ c, ([Ev.fail c] : List Ev).length ≤ 2 ∧ bsum [Ev.fail c] = 0 ∧ Full [Ev.fail c] := fun c => ⟨by simp, rfl, fun a ha => by simp at ha⟩
  have h0 : ([] : List Ev).length ≤ 2 ∧ bsum [] = 0 ∧ Full [] := ⟨by simp, rfl, fun a ha => by cases ha⟩
  unfold line
  split
  · split
    · exact h0
    · split
      · exact hf _
      · exact h0
  · split
    · split
      · exact hf _
      · split
        · exact ⟨by simp, rfl, fun a ha => by simp at ha⟩
        · split
          · exact ⟨by simp, rfl, fun a ha => by simp at ha⟩
          · exact ⟨by simp, rfl, fun a ha => by simp at ha⟩
    · split
      · exact hf _
      · split
        · exact hf _
        · exact h0
theorem next_few (s : St) (c : UInt8) : (next s c).2.length ≤ 2 ∧ bsum (next s c).2 ≤ 1 ∧ Full (next s c).2 := by
  have hf : ∀ c, ([Ev.fail c] : List Ev).length ≤ 2 ∧ bsum [Ev.fail c] ≤ 1 ∧ Full [Ev.fail c] := fun c => ⟨by simp, Nat.zero_le _, fun a ha => by simp at ha⟩
  have h0 : ([] : List Ev).length ≤ 2 ∧ bsum [] ≤ 1 ∧ Full [] := ⟨by simp, Nat.zero_le _, fun a ha => by cases ha⟩
  unfold next
  split
  · exact h0
  · split
    · split
      · exact ⟨by simp, by simp [bsum], fun a ha => by simp at ha; subst ha; simp⟩
      · exact ⟨by simp, by simp [bsum], fun a ha => by simp at ha; subst ha; simp⟩
    · split
      · split
        · exact hf _
        · split
          · exact ⟨by simp, Nat.zero_le _, fun a ha => by simp at ha⟩
          · have := Ck.out_len s.ck c
            unfold some_
            split
            · exact h0
            · rename_i hne
              exact ⟨by simp, by simp only [bsum]; omega, fun a ha => by simp at ha; subst ha; exact hne⟩
      · split
        · exact hf _
        · split
          · have := line_few { s with ln := Ln.start } (Ln.text s.ln c)
            exact ⟨this.1, by omega, this.2.2⟩
          · exact h0
theorem outs_few : ∀ (l : List UInt8) (s : St), (outs s l).length ≤ 2 * l.length ∧ bsum (outs s l) ≤ l.length ∧ Full (outs s l)
  | [], s => ⟨by simp [outs], by simp [outs, bsum], fun a ha => by cases ha⟩
  | c :: t, s => by
    have h1 := next_few s c
    have h2 := outs_few t (next s c).1
    rw [outs, List.length_append, bsum_append, List.length_cons]
    exact ⟨by omega, by omega, full_append h1.2.2 h2.2.2⟩
/-- joined: how many, how long -/
theorem fed_few (s : St) (l : List UInt8) : (join (outs s l)).length ≤ 2 * l.length ∧ bsum (join (outs s l)) ≤ l.length ∧ Full (join (outs s l)) ∧ Joined (join (outs s l)) := by
  have h := outs_few l s
  have hl := join_length (outs s l)
  exact ⟨by omega, by rw [join_bsum]; exact h.2.1, join_full _ h.2.2, joined_join _⟩
end Go.Proofs.YtkbeaehjagdnnacGreatDoor.Rq

/- Plain laws of requests of a stream: two requests that were written one behind the other are read as just these. -/
namespace Go.Proofs.YtkbeaehjagdnnacGreatDoor.Rq

theorem lines_short : ∀ (fs : List Fl) (s : List UInt8), lines fs = .inr s → s.length ≤ 202 * fs.length
  | [], s, h => by injection h with h; subst h; exact Nat.zero_le _
  | f :: r, s, h => by
    rw [lines] at h
    split at h
    · cases h
    · rename_i h0
      have h0 : (Fd.text f.1 f.2).2 = 0 := by omega
      cases hr : lines r with
      | inl c => rw [hr] at h; cases h
      | inr t =>
        rw [hr] at h
        injection h with h
        subst h
        have ih := lines_short r t hr
        have hl : (Fd.text f.1 f.2).1.length ≤ 200 := by have k1 := Fd.text_length f.1 f.2; have k2 := (Fd.text_zero h0).2; omega
        simp only [List.length_append, List.length_cons]; omega
/-- a request that can be written: its text is not empty, and not long -/
theorem text_size (h : Hd) (a : List UInt8) (hc : (text h a).2 = 0) : 0 < (text h a).1.length ∧ (text h a).1.length ≤ 8000 := by
  unfold text at hc ⊢
  by_cases h1 : Ch.isToken h.method = false
  · rw [if_pos h1] at hc; cases hc
  rw [if_neg h1] at hc ⊢
  by_cases h2 : h.target.head? ≠ some 47 ∨ 32 ∈ h.target ∨ 9 ∈ h.target ∨ Ch.isVisible h.target = false
  · rw [if_pos h2] at hc; cases hc
  rw [if_neg h2] at hc ⊢
  by_cases h3 : 200 < h.method.length + h.target.length + 10 ∨ 4000 < a.length
  · rw [if_pos h3] at hc; cases hc
  rw [if_neg h3] at hc ⊢
  by_cases h4 : 16 ≤ h.fields.length
  · rw [if_pos h4] at hc; cases hc
  rw [if_neg h4] at hc ⊢
  by_cases h5 : vals h.fields nSize ≠ [] ∨ vals h.fields nCode ≠ []
  · rw [if_pos h5] at hc; cases hc
  rw [if_neg h5] at hc ⊢
  by_cases h6 : (vals h.fields nHost).length ≠ 1
  · rw [if_pos h6] at hc; cases hc
  rw [if_neg h6] at hc ⊢
  cases hs : lines h.fields with
  | inl c =>
    rw [hs] at hc
    exfalso
    have key : ∀ fs c, lines fs = .inl c → c ≠ 0 := by
      intro fs
      induction fs with
      | nil => intro c e; cases e
      | cons x r ih =>
        intro c e
        rw [lines] at e
        split at e
        · rename_i hx; injection e with e; subst e; exact hx
        · cases hr : lines r with
          | inl d => rw [hr] at e; injection e with e; subst e; exact ih d hr
          | inr d => rw [hr] at e; cases e
    exact key _ c hs hc
  | inr s =>
    have hl := lines_short h.fields s hs
    have hd := (Ch.decF_length 8 a.length).1
    have e1 : v11.length = 8 := rfl
    have e2 : nCL.length = 14 := rfl
    simp only [List.length_append, List.length_cons, List.length_nil, e1, e2]
    omega
/-- .. and it has one field at least, and not too many -/
theorem text_fields (h : Hd) (a : List UInt8) (hc : (text h a).2 = 0) : 0 < h.fields.length ∧ h.fields.length < 16 ∧ a.length ≤ 4000 := by
  unfold text at hc
  by_cases h1 : Ch.isToken h.method = false
  · rw [if_pos h1] at hc; cases hc
  rw [if_neg h1] at hc
  by_cases h2 : h.target.head? ≠ some 47 ∨ 32 ∈ h.target ∨ 9 ∈ h.target ∨ Ch.isVisible h.target = false
  · rw [if_pos h2] at hc; cases hc
  rw [if_neg h2] at hc
  by_cases h3 : 200 < h.method.length + h.target.length + 10 ∨ 4000 < a.length
  · rw [if_pos h3] at hc; cases hc
  rw [if_neg h3] at hc
  by_cases h4 : 16 ≤ h.fields.length
  · rw [if_pos h4] at hc; cases hc
  rw [if_neg h4] at hc
  by_cases h5 : vals h.fields nSize ≠ [] ∨ vals h.fields nCode ≠ []
  · rw [if_pos h5] at hc; cases hc
  rw [if_neg h5] at hc
  by_cases h6 : (vals h.fields nHost).length ≠ 1
  · rw [if_pos h6] at hc; cases hc
  have h7 : (vals h.fields nHost).length ≤ h.fields.length := by
    unfold vals; rw [List.length_map]; exact List.length_filter_le _ _
  omega
theorem go_nil (f : Nat) : go f [] = ([], false) := by
  cases f with
  | zero => rfl
  | succ f => rfl
/-- NO REQUEST IS TWO -/
theorem back_two (h g : Hd) (a b : List UInt8) (hc : (text h a).2 = 0) (hd : (text g b).2 = 0) :
    Tells start ((text h a).1 ++ (text g b).1) (.head (back h a) :: some_ a ++ .fin :: (.head (back g b) :: some_ b ++ [.fin]), false) := by
  have p1 := (text_size h a hc).1
  have p2 := (text_size g b hd).1
  have h0 := of_run ((text h a).1 ++ (text g b).1)
  unfold of at h0
  rw [go_text h a (text g b).1 _ hc (by rw [List.length_append]; omega)] at h0
  obtain ⟨f, hf⟩ : ∃ f, ((text h a).1 ++ (text g b).1).length = f + 1 := ⟨((text h a).1 ++ (text g b).1).length - 1, by rw [List.length_append]; omega⟩
  have h2 := go_text g b [] f hd (by rw [List.length_append] at hf; simp; omega)
  rw [List.append_nil, go_nil] at h2
  rw [hf, h2] at h0
  exact h0
end Go.Proofs.YtkbeaehjagdnnacGreatDoor.Rq
