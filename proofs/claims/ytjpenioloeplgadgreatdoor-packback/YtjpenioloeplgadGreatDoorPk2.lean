/- Small texts, one behind the other: PlainM, PlainT, PlainG, PlainMT, PlainMB, PlainMD. -/
import Derived.Test.YtjpenioloeplgadGreatDoorPk1
/- Plain laws of values with parameters, with no program in them: a value out of its text. -/
namespace Go.Proofs.YtjpenioloeplgadGreatDoor.Pm

theorem drop_run (p : UInt8 → Bool) (l : List UInt8) (i : Nat) : l.drop (i + run p l i) = (l.drop i).dropWhile p := by
  unfold run
  rw [← List.drop_drop]
  generalize l.drop i = t
  induction t with
  | nil => rfl
  | cons a t ih =>
    rw [List.takeWhile_cons, List.dropWhile_cons]
    cases p a
    · rfl
    · simpa using ih
theorem take_run (p : UInt8 → Bool) (l : List UInt8) (i : Nat) : (l.drop i).take (run p l i) = (l.drop i).takeWhile p := by
  unfold run
  generalize l.drop i = t
  induction t with
  | nil => rfl
  | cons a t ih =>
    rw [List.takeWhile_cons]
    cases p a
    · rfl
    · simpa using ih
/-- a name and a value -/
abbrev Par := List UInt8 × List UInt8
/-- a value that stands in quotes, behind the first of them; nothing: no quote comes -/
def quo : List UInt8 → List UInt8 → Option (List UInt8 × List UInt8)
  | _, [] => none
  | acc, c :: t => if c = 34 then some (acc, t) else if c = 92 then (match t with
      | [] => none
      | d :: t' => quo (acc ++ [d]) t') else quo (acc ++ [c]) t
theorem quo_nil (acc : List UInt8) : quo acc [] = none := by unfold quo; rfl
theorem quo_end (acc t : List UInt8) : quo acc (34 :: t) = some (acc, t) := by unfold quo; rw [if_pos rfl]
theorem quo_back_nil (acc : List UInt8) : quo acc [92] = none := by unfold quo; rw [if_neg (by decide), if_pos rfl]
theorem quo_back (acc : List UInt8) (d : UInt8) (t : List UInt8) : quo acc (92 :: d :: t) = quo (acc ++ [d]) t := by rw [quo, if_neg (by decide), if_pos rfl]
theorem quo_byte (acc : List UInt8) (c : UInt8) (t : List UInt8) (h1 : c ≠ 34) (h2 : c ≠ 92) : quo acc (c :: t) = quo (acc ++ [c]) t := by rw [quo.eq_def]; simp only []; rw [if_neg h1, if_neg h2]
theorem quo_short (n : Nat) : ∀ (acc t v r : List UInt8), t.length ≤ n → quo acc t = some (v, r) → r.length < t.length ∧ v.length ≤ acc.length + t.length := by
  induction n with
  | zero =>
    intro acc t v r h e
    obtain rfl : t = [] := List.eq_nil_of_length_eq_zero (by omega)
    rw [quo_nil] at e; cases e
  | succ n ih =>
    intro acc t v r h e
    cases t with
    | nil => rw [quo_nil] at e; cases e
    | cons c t =>
      by_cases h1 : c = 34
      · subst h1
        rw [quo_end] at e
        injection e with e; injection e with e1 e2
        subst e1; subst e2
        simp
      · by_cases h2 : c = 92
        · subst h2
          cases t with
          | nil => rw [quo_back_nil] at e; cases e
          | cons d t =>
            rw [quo_back] at e
            have := ih _ _ _ _ (by simp at h ⊢; omega) e
            simp at this ⊢; omega
        · rw [quo_byte _ _ _ h1 h2] at e
          have := ih _ _ _ _ (by simp at h ⊢; omega) e
          simp at this ⊢; omega
/-- the value of a parameter, behind its =: a code, or it and what is left -/
def val (r : List UInt8) : Nat ⊕ (List UInt8 × List UInt8) :=
  if r.head? = some 34 then (match quo [] r.tail with
    | none => .inl 14
    | some x => .inr x)
  else if r.takeWhile tok = [] then .inl 5 else .inr (r.takeWhile tok, r.dropWhile tok)
/-- one parameter, from its ; on: a code, or it and what is left -/
def par (r : List UInt8) : Nat ⊕ (Par × List UInt8) :=
  if r.head? = some 59 then
    let r2 := r.tail.dropWhile blank
    if r2.takeWhile tok = [] then .inl 5
    else if (r2.dropWhile tok).head? = some 61 then (match val (r2.dropWhile tok).tail with
      | .inl c => .inl c
      | .inr x => .inr ((Ch.lower (r2.takeWhile tok), x.1), x.2))
    else .inl 5
  else .inl 5
/-- all parameters; n: at most so many rounds -/
def pars : Nat → List UInt8 → List Par → Nat ⊕ List Par
  | 0, _, acc => .inr acc
  | n + 1, r, acc =>
    if r.dropWhile blank = [] then .inr acc
    else match par (r.dropWhile blank) with
      | .inl c => .inl c
      | .inr x => if acc.any (fun q => q.1 == x.1.1) then .inl 9 else if acc.length = 8 then .inl 8 else pars n x.2 (acc ++ [x.1])
/-- a value's word: a code, or it and what is left -/
def wrd (l : List UInt8) : Nat ⊕ (List UInt8 × List UInt8) :=
  let r := l.dropWhile blank
  if r.takeWhile tok = [] then .inl 5
  else if (r.dropWhile tok).head? = some 47 then
    (if (r.dropWhile tok).tail.takeWhile tok = [] then .inl 5
     else .inr (Ch.lower (r.takeWhile tok) ++ [47] ++ Ch.lower ((r.dropWhile tok).tail.takeWhile tok), (r.dropWhile tok).tail.dropWhile tok))
  else .inr (Ch.lower (r.takeWhile tok), r.dropWhile tok)
/-- a word, and all its parameters -/
def fin (n : Nat) (wd r : List UInt8) (acc : List Par) : Nat ⊕ (List UInt8 × List Par) := match pars n r acc with
  | .inl c => .inl c
  | .inr ps => .inr (wd, ps)
/-- a value with parameters: a code, or its word and its parameters -/
def media (l : List UInt8) : Nat ⊕ (List UInt8 × List Par) :=
  if Ch.isVisible l = false then .inl 3
  else match wrd l with
    | .inl c => .inl c
    | .inr x => fin (l.length + 1) x.1 x.2 []
/-! ### by places in a text -/
theorem blanks_drop (l : List UInt8) (i : Nat) : (l.drop i).dropWhile blank = l.drop (blanks l i) := (drop_run blank l i).symm
theorem word_drop (l : List UInt8) (i : Nat) : (l.drop i).dropWhile tok = l.drop (i + word l i) := (drop_run tok l i).symm
theorem word_take (l : List UInt8) (i : Nat) : (l.drop i).takeWhile tok = (l.drop i).take (word l i) := (take_run tok l i).symm
theorem word_nil (l : List UInt8) (i : Nat) : (l.drop i).takeWhile tok = [] ↔ word l i = 0 := by
  unfold word run
  constructor
  · intro h; rw [h]; rfl
  · intro h; exact List.eq_nil_of_length_eq_zero h
theorem word_nil' (l : List UInt8) (i : Nat) : ((l.drop i).take (word l i) = []) = (word l i = 0) := by
  rw [← word_take]; exact propext (word_nil l i)
theorem blanks_le (l : List UInt8) (i : Nat) (h : i ≤ l.length) : blanks l i ≤ l.length := run_le blank l i h
theorem blanks_ge (l : List UInt8) (i : Nat) : i ≤ blanks l i := Nat.le_add_right _ _
theorem word_le (l : List UInt8) (i : Nat) (h : i ≤ l.length) : i + word l i ≤ l.length := run_le tok l i h
theorem val_at (l : List UInt8) (i : Nat) : val (l.drop i) =
    if l[i]? = some 34 then (match quo [] (l.drop (i + 1)) with
      | none => .inl 14
      | some x => .inr x)
    else if word l i = 0 then .inl 5 else .inr ((l.drop i).take (word l i), l.drop (i + word l i)) := by
  unfold val
  simp only [List.head?_drop, List.tail_drop, word_take, word_drop, word_nil']
theorem par_at (l : List UInt8) (i : Nat) : par (l.drop i) =
    if l[i]? = some 59 then
      (if word l (blanks l (i + 1)) = 0 then .inl 5
       else if l[blanks l (i + 1) + word l (blanks l (i + 1))]? = some 61 then (match val (l.drop (blanks l (i + 1) + word l (blanks l (i + 1)) + 1)) with
         | .inl c => .inl c
         | .inr x => .inr ((Ch.lower ((l.drop (blanks l (i + 1))).take (word l (blanks l (i + 1)))), x.1), x.2))
       else .inl 5)
    else .inl 5 := by
  unfold par
  simp only [List.head?_drop, List.tail_drop, blanks_drop, word_drop, word_take, word_nil']
theorem pars_at (l : List UInt8) (n i : Nat) (acc : List Par) (hi : i ≤ l.length) : pars (n + 1) (l.drop i) acc =
    if blanks l i = l.length then .inr acc
    else match par (l.drop (blanks l i)) with
      | .inl c => .inl c
      | .inr x => if acc.any (fun q => q.1 == x.1.1) then .inl 9 else if acc.length = 8 then .inl 8 else pars n x.2 (acc ++ [x.1]) := by
  have hb := blanks_le l i hi
  rw [pars, blanks_drop]
  by_cases h : blanks l i = l.length
  · rw [if_pos h, if_pos (by rw [h, List.drop_length])]
  · rw [if_neg h, if_neg (fun e => h (by have := congrArg List.length e; rw [List.length_drop] at this; simp at this; omega))]
theorem wrd_at (l : List UInt8) : wrd l =
    if word l (blanks l 0) = 0 then .inl 5
    else if l[blanks l 0 + word l (blanks l 0)]? = some 47 then
      (if word l (blanks l 0 + word l (blanks l 0) + 1) = 0 then .inl 5
       else .inr (Ch.lower ((l.drop (blanks l 0)).take (word l (blanks l 0))) ++ [47] ++ Ch.lower ((l.drop (blanks l 0 + word l (blanks l 0) + 1)).take (word l (blanks l 0 + word l (blanks l 0) + 1))), l.drop (blanks l 0 + word l (blanks l 0) + 1 + word l (blanks l 0 + word l (blanks l 0) + 1))))
    else .inr (Ch.lower ((l.drop (blanks l 0)).take (word l (blanks l 0))), l.drop (blanks l 0 + word l (blanks l 0))) := by
  unfold wrd
  have e : l.dropWhile blank = l.drop (blanks l 0) := by have := blanks_drop l 0; rwa [List.drop_zero] at this
  simp only [e, word_drop, List.head?_drop, List.tail_drop, word_take, word_nil']
theorem media_at (l : List UInt8) (hv : Ch.isVisible l = true) (i0 n0 : Nat) (hi : blanks l 0 = i0) (hn : word l i0 = n0) : media l =
    if n0 = 0 then .inl 5
    else if l[i0 + n0]? = some 47 then
      (if word l (i0 + n0 + 1) = 0 then .inl 5
       else fin (l.length + 1) (Ch.lower ((l.drop i0).take n0) ++ [47] ++ Ch.lower ((l.drop (i0 + n0 + 1)).take (word l (i0 + n0 + 1)))) (l.drop (i0 + n0 + 1 + word l (i0 + n0 + 1))) [])
    else fin (l.length + 1) (Ch.lower ((l.drop i0).take n0)) (l.drop (i0 + n0)) [] := by
  unfold media
  rw [if_neg (by rw [hv]; simp), wrd_at, hi, hn]
  by_cases h : n0 = 0
  · rw [if_pos h, if_pos h]
  · rw [if_neg h, if_neg h]
    by_cases h47 : l[i0 + n0]? = some 47
    · rw [if_pos h47, if_pos h47]
      by_cases h2 : word l (i0 + n0 + 1) = 0
      · rw [if_pos h2, if_pos h2]
      · rw [if_neg h2, if_neg h2]
    · rw [if_neg h47, if_neg h47]
theorem fin_at (l : List UInt8) (n i : Nat) (wd : List UInt8) (acc : List Par) (hi : i ≤ l.length) : fin (n + 1) wd (l.drop i) acc =
    if blanks l i = l.length then .inr (wd, acc)
    else match par (l.drop (blanks l i)) with
      | .inl c => .inl c
      | .inr x => if acc.any (fun q => q.1 == x.1.1) then .inl 9 else if acc.length = 8 then .inl 8 else fin n wd x.2 (acc ++ [x.1]) := by
  unfold fin
  rw [pars_at l n i acc hi]
  by_cases h : blanks l i = l.length
  · rw [if_pos h, if_pos h]
  · rw [if_neg h, if_neg h]
    cases par (l.drop (blanks l i)) with
    | inl c => rfl
    | inr x =>
      simp only []
      by_cases h1 : (acc.any fun q => q.1 == x.1.1) = true
      · rw [if_pos h1, if_pos h1]
      · rw [if_neg h1, if_neg h1]
        by_cases h2 : acc.length = 8
        · rw [if_pos h2, if_pos h2]
        · rw [if_neg h2, if_neg h2]
end Go.Proofs.YtjpenioloeplgadGreatDoor.Pm

/- Texts without blanks at their ends, again. -/
namespace Go.Proofs.YtjpenioloeplgadGreatDoor
open Go.RowKit

theorem trimS_le (l : List UInt8) : (Lib.trimS l Ch.ws).length ≤ l.length := by
  unfold Lib.trimS Lib.trimLeftS Lib.trimRightS
  have h1 := (List.dropWhile_suffix (l := (l.reverse.dropWhile (Ch.ws.contains ·)).reverse) (Ch.ws.contains ·)).length_le
  have h2 := (List.dropWhile_suffix (l := l.reverse) (Ch.ws.contains ·)).length_le
  simp only [List.length_reverse] at h1 h2
  omega

theorem drop_again (p : UInt8 → Bool) : ∀ l : List UInt8, (l.dropWhile p).dropWhile p = l.dropWhile p
  | [] => rfl
  | a :: t => by
    rw [List.dropWhile_cons]
    cases hp : p a
    · simp only [Bool.false_eq_true, if_false]
      rw [List.dropWhile_cons, hp]
      rfl
    · simp only [if_true]
      exact drop_again p t

theorem trimS_again (l : List UInt8) : Lib.trimS (Lib.trimS l Ch.ws) Ch.ws = Lib.trimS l Ch.ws := by
  conv => lhs; rw [← Ch.trim_both]
  have h1 : Lib.trimLeftS (Lib.trimS l Ch.ws) Ch.ws = Lib.trimS l Ch.ws := drop_again _ _
  rw [h1, ← Ch.trim_both]
  unfold Lib.trimRightS
  rw [List.reverse_reverse, drop_again]
end Go.Proofs.YtjpenioloeplgadGreatDoor

/- Plain laws of a head's fields: there and back; with no program in them. -/
namespace Go.Proofs.YtjpenioloeplgadGreatDoor.Fd

/-- what stands first, as the library looks for it -/
theorem index_at (l : List UInt8) (c : UInt8) : (Lib.indexByte l c = -1 ∧ at_ c l = l.length) ∨ (Lib.indexByte l c = (at_ c l : Int) ∧ at_ c l < l.length) := by
  by_cases h : Lib.indexByte l c = -1
  · refine Or.inl ⟨h, at_none fun j hj e => ?_⟩
    exact Lib.indexByte_none h j (by rw [List.getElem?_eq_getElem hj, e])
  · have hge := Lib.indexByte_ge l c
    obtain ⟨o, ho⟩ : ∃ o : Nat, Lib.indexByte l c = o := ⟨(Lib.indexByte l c).toNat, by omega⟩
    obtain ⟨h1, h2⟩ := Lib.indexByte_some ho
    obtain ⟨hlt, he⟩ := List.getElem?_eq_some_iff.1 h1
    have : at_ c l = o := at_is hlt he fun j hj e => h2 j hj (by rw [List.getElem?_eq_getElem (by omega), e])
    refine Or.inr ⟨by rw [ho, this], by omega⟩

theorem all_dropWhile (p q : UInt8 → Bool) (h : ∀ b, q b = true → p b = true) : ∀ l : List UInt8, (l.dropWhile q).all p = l.all p
  | [] => rfl
  | a :: t => by
    rw [List.dropWhile_cons]
    cases hq : q a
    · rfl
    · rw [if_pos rfl, all_dropWhile p q h t, List.all_cons, h a hq]; rfl
theorem ws_seen (b : UInt8) (h : Ch.ws.contains b = true) : Ch.visible b.toNat = true := by
  have hb := b.toNat_lt
  have := (show ∀ n : Fin 256, Ch.ws.contains n.val.toUInt8 = true → Ch.visible ((n.val.toUInt8).toNat : Int) = true by decide +kernel) ⟨b.toNat, hb⟩
  have e : b.toNat.toUInt8 = b := by simp
  simp only [e] at this
  exact this h
/-- blanks and tabs are visible -/
theorem seen_trim (l : List UInt8) : Ch.isVisible (Lib.trimS l Ch.ws) = Ch.isVisible l := by
  unfold Ch.isVisible Lib.trimS Lib.trimLeftS Lib.trimRightS
  rw [all_dropWhile _ _ ws_seen, List.all_reverse, all_dropWhile _ _ ws_seen, List.all_reverse]
/-- a field out of a line: its value trimmed first -/
theorem of_trim (l : List UInt8) : of l = if at_ 58 l = l.length then bad 5
    else if Ch.isToken (l.take (at_ 58 l)) = false then bad 6
    else if 40 < at_ 58 l then bad 4
    else if Ch.isVisible (Lib.trimS (l.drop (at_ 58 l + 1)) Ch.ws) = false then bad 3
    else ⟨l.take (at_ 58 l), Lib.trimS (l.drop (at_ 58 l + 1)) Ch.ws, 0⟩ := by
  unfold of; rw [seen_trim]

theorem token_colon (n : List UInt8) (h : Ch.isToken n = true) (j : Nat) (hj : j < n.length) : n[j] ≠ 58 := by
  intro e
  unfold Ch.isToken at h
  rw [Bool.and_eq_true, List.all_eq_true] at h
  have := h.2 _ (List.getElem_mem hj)
  rw [e] at this
  exact absurd this (by decide)
theorem trim_blank (v : List UInt8) : Lib.trimS (32 :: v) Ch.ws = Lib.trimS v Ch.ws := by
  rw [← Ch.trim_both, ← Ch.trim_both]
  rfl
/-- a field that has a text -/
structure Good (n v : List UInt8) : Prop where
  tok : Ch.isToken n = true
  short : n.length ≤ 40
  seen : Ch.isVisible v = true
  trim : Lib.trimS v Ch.ws = v
theorem text_good {n v : List UInt8} (h : Good n v) (hl : n.length + 2 + v.length ≤ 200) : text n v = (n ++ [58, 32] ++ v, 0) := by
  unfold text
  rw [if_neg (by rw [h.tok]; simp), if_neg (by have := h.short; omega), if_neg (by rw [h.seen, h.trim]; simp)]
theorem text_long {n v : List UInt8} (h : Good n v) (hl : ¬ n.length + 2 + v.length ≤ 200) : text n v = ([], 4) := by
  unfold text
  rw [if_neg (by rw [h.tok]; simp), if_pos (by omega)]
theorem text_zero {n v : List UInt8} (h : (text n v).2 = 0) : Good n v ∧ n.length + 2 + v.length ≤ 200 := by
  unfold text at h
  split at h
  · simp at h
  · rename_i h1
    split at h
    · simp at h
    · rename_i h2
      split at h
      · simp at h
      · rename_i h3
        have q : Ch.isVisible v = true := by
          cases e : Ch.isVisible v
          · exact absurd (Or.inl e) h3
          · rfl
        have t : Lib.trimS v Ch.ws = v := by
          by_cases e : Lib.trimS v Ch.ws = v
          · exact e
          · exact absurd (Or.inr e) h3
        exact ⟨⟨by simpa using h1, by omega, q, t⟩, by omega⟩
/-- there -/
theorem of_text {n v : List UInt8} (h : Good n v) : of (n ++ [58, 32] ++ v) = ⟨n, v, 0⟩ := by
  have hlen : (n ++ [58, 32] ++ v).length = n.length + 2 + v.length := by simp; omega
  have hat : at_ 58 (n ++ [58, 32] ++ v) = n.length := by
    refine at_is (by omega) ?_ fun j hj => ?_
    · simp
    · have := token_colon n h.tok j hj
      simpa [List.getElem_append, hj] using this
  have hd : (n ++ [58, 32] ++ v).drop (n.length + 1) = 32 :: v := by
    rw [List.append_assoc, ← List.drop_drop]
    simp
  have ht : (n ++ [58, 32] ++ v).take n.length = n := by rw [List.append_assoc]; simp
  rw [of_trim, hat, hd, ht, trim_blank, h.trim, if_neg (by omega), if_neg (by rw [h.tok]; simp), if_neg (by have := h.short; omega), if_neg (by rw [h.seen]; simp)]
/-- and back -/
theorem of_good {l : List UInt8} (h : (of l).code = 0) : Good (of l).name (of l).value := by
  rw [of_trim] at h ⊢
  split at h
  · simp [bad] at h
  · rename_i h1
    rw [if_neg h1]
    split at h
    · simp [bad] at h
    · rename_i h2
      rw [if_neg h2]
      split at h
      · simp [bad] at h
      · rename_i h3
        rw [if_neg h3]
        split at h
        · simp [bad] at h
        · rename_i h4
          rw [if_neg h4]
          exact ⟨by simpa using h2, by rw [List.length_take]; omega, by simpa using h4, trimS_again _⟩
theorem of_bad {l : List UInt8} (h : (of l).code ≠ 0) : (of l).name = [] ∧ (of l).value = [] := by
  unfold of at h ⊢
  split
  · exact ⟨rfl, rfl⟩
  · rename_i h1
    rw [if_neg h1] at h
    split
    · exact ⟨rfl, rfl⟩
    · rename_i h2
      rw [if_neg h2] at h
      split
      · exact ⟨rfl, rfl⟩
      · rename_i h3
        rw [if_neg h3] at h
        split
        · exact ⟨rfl, rfl⟩
        · rename_i h4
          rw [if_neg h4] at h
          exact absurd rfl h
/-- what is read of a line is no longer than it -/
theorem of_length (l : List UInt8) : (of l).name.length ≤ l.length ∧ (of l).value.length ≤ l.length := by
  unfold of
  split
  · simp [bad]
  · split
    · simp [bad]
    · split
      · simp [bad]
      · split
        · simp [bad]
        · refine ⟨List.length_take_le' .., ?_⟩
          have := trimS_le (l.drop (at_ 58 l + 1))
          rw [List.length_drop] at this
          show (Lib.trimS (l.drop (at_ 58 l + 1)) Ch.ws).length ≤ l.length
          omega
theorem text_length (n v : List UInt8) : (text n v).1.length ≤ n.length + 2 + v.length := by
  unfold text
  split
  · simp
  · split
    · simp
    · split
      · simp
      · simp; omega
end Go.Proofs.YtjpenioloeplgadGreatDoor.Fd

/- Plain laws of values with parameters, with no program in them: the text of a value. -/
namespace Go.Proofs.YtjpenioloeplgadGreatDoor.Pm

/-- is it a value's word? -/
def wordOk (wd : List UInt8) : Bool :=
  decide (Ch.lower wd = wd) && (if Fd.at_ 47 wd = wd.length then Ch.isToken wd else Ch.isToken (wd.take (Fd.at_ 47 wd)) && Ch.isToken (wd.drop (Fd.at_ 47 wd + 1)))
/-- a byte between quotes -/
def escB (c : UInt8) : List UInt8 := if c = 34 ∨ c = 92 then [92, c] else [c]
def esc (v : List UInt8) : List UInt8 := v.flatMap escB
theorem esc_snoc (v : List UInt8) (c : UInt8) : esc (v ++ [c]) = esc v ++ escB c := by simp [esc]
theorem esc_length (v : List UInt8) : (esc v).length ≤ 2 * v.length := by
  induction v with
  | nil => simp [esc]
  | cons c t ih =>
    have : esc (c :: t) = escB c ++ esc t := by simp [esc]
    rw [this, List.length_append, List.length_cons]
    have : (escB c).length ≤ 2 := by unfold escB; split <;> simp
    omega
/-- a parameter's text -/
def one (p : Par) : List UInt8 := [59, 32] ++ p.1 ++ [61] ++ (if Ch.isToken p.2 then p.2 else [34] ++ esc p.2 ++ [34])
theorem one_length (p : Par) : (one p).length ≤ 5 + p.1.length + 2 * p.2.length := by
  unfold one
  have := esc_length p.2
  split <;> simp <;> omega
/-- the texts of parameters behind what stands there -/
def txt (acc : List UInt8) (seen : List Par) : List Par → Nat ⊕ List UInt8
  | [] => .inr acc
  | p :: t => if Ch.isToken p.1 = false ∨ Ch.lower p.1 ≠ p.1 then .inl 6 else if (seen.any fun q => q.1 == p.1) = true then .inl 9 else if Ch.isVisible p.2 = false then .inl 3 else txt (acc ++ one p) (seen ++ [p]) t
/-- the text of a value -/
def text (wd : List UInt8) (ps : List Par) : Nat ⊕ List UInt8 :=
  if wordOk wd = false then .inl 5 else if 8 < ps.length then .inl 8 else txt wd [] ps
theorem txt_at (acc : List UInt8) (l : List Par) (k : Nat) (hk : k < l.length) : txt acc (l.take k) (l.drop k) =
    if Ch.isToken l[k].1 = false ∨ Ch.lower l[k].1 ≠ l[k].1 then .inl 6 else if ((l.take k).any fun q => q.1 == l[k].1) = true then .inl 9 else if Ch.isVisible l[k].2 = false then .inl 3 else txt (acc ++ one l[k]) (l.take (k + 1)) (l.drop (k + 1)) := by
  rw [List.drop_eq_getElem_cons hk, txt, ← List.take_succ_eq_append_getElem hk]
theorem txt_end (acc : List UInt8) (l : List Par) : txt acc (l.take l.length) (l.drop l.length) = .inr acc := by
  rw [List.drop_length]; rfl
end Go.Proofs.YtjpenioloeplgadGreatDoor.Pm

/- Plain laws of values with parameters: there and back; with no program in them. -/
namespace Go.Proofs.YtjpenioloeplgadGreatDoor.Pm

theorem byteOf {p : UInt8 → Prop} [DecidablePred p] (h : ∀ n : Fin 256, p n.val.toUInt8) (b : UInt8) : p b := by
  have := h ⟨b.toNat, b.toNat_lt⟩
  have e : b.toNat.toUInt8 = b := by simp
  simpa only [e] using this
theorem tok_blank (b : UInt8) (h : tok b = true) : blank b = false := by
  have := byteOf (p := fun b => tok b = true → blank b = false) (by decide +kernel) b
  exact this h
theorem tok_seen (b : UInt8) (h : tok b = true) : Ch.visible b.toNat = true := by
  have := byteOf (p := fun b => tok b = true → Ch.visible b.toNat = true) (by decide +kernel) b
  exact this h
theorem tok_34 : tok 34 = false := by decide
theorem tok_47 : tok 47 = false := by decide
theorem tok_59 : tok 59 = false := by decide
theorem tok_61 : tok 61 = false := by decide
theorem isToken_iff (l : List UInt8) : Ch.isToken l = true ↔ l ≠ [] ∧ ∀ b ∈ l, tok b = true := by
  unfold Ch.isToken
  rw [Bool.and_eq_true, List.all_eq_true]
  cases l <;> simp [tok]
theorem takeW {p : UInt8 → Bool} : ∀ (l r : List UInt8), (∀ b ∈ l, p b = true) → (∀ b, r.head? = some b → p b = false) → (l ++ r).takeWhile p = l ∧ (l ++ r).dropWhile p = r
  | [], r, _, h => by
    cases r with
    | nil => exact ⟨rfl, rfl⟩
    | cons a t =>
      have := h a rfl
      simp [this]
  | a :: l, r, hl, h => by
    have ha := hl a (List.mem_cons_self ..)
    have ih := takeW l r (fun b hb => hl b (List.mem_cons_of_mem _ hb)) h
    simp [ha, ih.1, ih.2]
theorem takeWhile_all {p : UInt8 → Bool} : ∀ (l : List UInt8), ∀ b ∈ l.takeWhile p, p b = true
  | [], b, h => by simp at h
  | a :: l, b, h => by
    rw [List.takeWhile_cons] at h
    cases ha : p a
    · rw [ha] at h; simp at h
    · rw [ha] at h
      simp only [if_true, List.mem_cons] at h
      rcases h with rfl | h
      · exact ha
      · exact takeWhile_all l b h
/-- what stands between quotes is read as it was -/
theorem quo_esc : ∀ (v acc r : List UInt8), quo acc (esc v ++ 34 :: r) = some (acc ++ v, r)
  | [], acc, r => by
    have : esc [] = [] := rfl
    rw [this, List.nil_append, quo_end, List.append_nil]
  | c :: v, acc, r => by
    have e : esc (c :: v) = escB c ++ esc v := by simp [esc]
    rw [e]
    unfold escB
    split
    · rename_i h
      show quo acc (92 :: c :: (esc v ++ 34 :: r)) = _
      rw [quo_back, quo_esc v, List.append_assoc]; rfl
    · rename_i h
      have h1 : c ≠ 34 := fun e => h (Or.inl e)
      have h2 : c ≠ 92 := fun e => h (Or.inr e)
      show quo acc (c :: (esc v ++ 34 :: r)) = _
      rw [quo_byte _ _ _ h1 h2, quo_esc v, List.append_assoc]; rfl
/-- the next one begins, or there is none -/
def Next (r : List UInt8) : Prop := r = [] ∨ r.head? = some 59
theorem Next.tok {r : List UInt8} (h : Next r) : ∀ b, r.head? = some b → Pm.tok b = false := by
  intro b hb
  rcases h with rfl | h
  · simp at hb
  · rw [h] at hb; injection hb with hb; subst hb; exact tok_59
theorem Next.blank {r : List UInt8} (h : Next r) : r.dropWhile Pm.blank = r := by
  rcases h with rfl | h
  · rfl
  · cases r with
    | nil => rfl
    | cons a t =>
      simp only [List.head?_cons, Option.some.injEq] at h
      subst h
      rfl
theorem val_one (v r : List UInt8) (hr : Next r) : val ((if Ch.isToken v then v else [34] ++ esc v ++ [34]) ++ r) = .inr (v, r) := by
  cases ht : Ch.isToken v
  · simp only [Bool.false_eq_true, if_false]
    have e : [34] ++ esc v ++ [34] ++ r = 34 :: (esc v ++ 34 :: r) := by simp
    rw [e]
    unfold val
    rw [List.head?_cons, if_pos rfl, List.tail_cons, quo_esc]
    rfl
  · simp only [if_true]
    obtain ⟨hne, hall⟩ := (isToken_iff v).1 ht
    have h := takeW v r hall hr.tok
    unfold val
    rw [h.1, h.2, if_neg, if_neg hne]
    cases v with
    | nil => exact absurd rfl hne
    | cons a t =>
      simp only [List.cons_append, List.head?_cons, Option.some.injEq]
      intro e
      have := hall a (List.mem_cons_self ..)
      rw [e, tok_34] at this; cases this
theorem par_one (p : Par) (r : List UInt8) (ht : Ch.isToken p.1 = true) (hl : Ch.lower p.1 = p.1) (hr : Next r) : par (one p ++ r) = .inr (p, r) := by
  obtain ⟨hne, hall⟩ := (isToken_iff p.1).1 ht
  have e : one p ++ r = 59 :: 32 :: (p.1 ++ 61 :: ((if Ch.isToken p.2 then p.2 else [34] ++ esc p.2 ++ [34]) ++ r)) := by
    unfold one; simp
  rw [e]
  have hd : (32 :: (p.1 ++ 61 :: ((if Ch.isToken p.2 then p.2 else [34] ++ esc p.2 ++ [34]) ++ r))).dropWhile blank = p.1 ++ 61 :: ((if Ch.isToken p.2 then p.2 else [34] ++ esc p.2 ++ [34]) ++ r) := by
    rw [List.dropWhile_cons, if_pos (by decide)]
    obtain ⟨n, v⟩ := p
    cases n with
    | nil => exact absurd rfl hne
    | cons a t =>
      simp only [List.cons_append]
      rw [List.dropWhile_cons, tok_blank a (hall a (List.mem_cons_self ..))]
      rfl
  have h := takeW p.1 (61 :: ((if Ch.isToken p.2 then p.2 else [34] ++ esc p.2 ++ [34]) ++ r)) hall (fun b hb => by simp at hb; subst hb; exact tok_61)
  unfold par
  rw [List.head?_cons, if_pos rfl, List.tail_cons, hd]
  simp only [h.1, h.2]
  rw [if_neg hne, List.head?_cons, if_pos rfl, List.tail_cons, val_one _ _ hr, hl]
/-- parameters that have a text, behind others -/
def Good : List Par → List Par → Prop
  | _, [] => True
  | seen, p :: t => Ch.isToken p.1 = true ∧ Ch.lower p.1 = p.1 ∧ (seen.any fun q => q.1 == p.1) = false ∧ Ch.isVisible p.2 = true ∧ Good (seen ++ [p]) t
def texts (ps : List Par) : List UInt8 := ps.flatMap one
theorem texts_next (ps : List Par) : Next (texts ps) := by
  cases ps with
  | nil => exact Or.inl rfl
  | cons p t => exact Or.inr (by simp [texts, one])
theorem texts_length (ps : List Par) : ps.length ≤ (texts ps).length := by
  induction ps with
  | nil => simp
  | cons p t ih =>
    have : texts (p :: t) = one p ++ texts t := by simp [texts]
    rw [this, List.length_append, List.length_cons]
    have : 1 ≤ (one p).length := by unfold one; simp
    omega
theorem txt_good : ∀ (ps seen : List Par) (acc : List UInt8), Good seen ps → txt acc seen ps = .inr (acc ++ texts ps)
  | [], _, acc, _ => by simp [txt, texts]
  | p :: t, seen, acc, h => by
    obtain ⟨h1, h2, h3, h4, h5⟩ := h
    rw [txt, if_neg (by rw [h1, h2]; simp), if_neg (by rw [h3]; simp), if_neg (by rw [h4]; simp), txt_good t _ _ h5]
    simp [texts]
theorem good_txt : ∀ (ps seen : List Par) (acc t : List UInt8), txt acc seen ps = .inr t → Good seen ps ∧ t = acc ++ texts ps
  | [], _, acc, t, h => by
    rw [txt] at h; injection h with h; subst h
    exact ⟨trivial, by simp [texts]⟩
  | p :: ps, seen, acc, t, h => by
    rw [txt] at h
    split at h
    · cases h
    · rename_i h1
      split at h
      · cases h
      · rename_i h2
        split at h
        · cases h
        · rename_i h3
          obtain ⟨hg, rfl⟩ := good_txt ps _ _ t h
          refine ⟨⟨?_, ?_, Bool.eq_false_iff.2 h2, by simpa using h3, hg⟩, by simp [texts]⟩
          · cases e : Ch.isToken p.1
            · exact absurd (Or.inl e) h1
            · rfl
          · by_cases e : Ch.lower p.1 = p.1
            · exact e
            · exact absurd (Or.inr e) h1
theorem pars_texts : ∀ (ps : List Par) (n : Nat) (acc : List Par), Good acc ps → acc.length + ps.length ≤ 8 → ps.length < n → pars n (texts ps) acc = .inr (acc ++ ps)
  | [], n + 1, acc, _, _, _ => by
    rw [pars, if_pos (by rfl), List.append_nil]
  | p :: t, n + 1, acc, h, h8, hn => by
    obtain ⟨h1, h2, h3, h4, h5⟩ := h
    simp only [List.length_cons] at h8 hn
    rw [pars, (texts_next (p :: t)).blank]
    have e : texts (p :: t) = one p ++ texts t := by simp [texts]
    have hne : one p ++ texts t ≠ [] := by unfold one; simp
    rw [e, if_neg hne, par_one p _ h1 h2 (texts_next t)]
    simp only []
    rw [if_neg (by rw [h3]; simp), if_neg (by omega), pars_texts t n _ h5 (by rw [List.length_append, List.length_singleton]; omega) (by omega), List.append_assoc]
    rfl
  | _, 0, _, _, _, h => by omega
theorem tok_no47 {l : List UInt8} (h : ∀ b ∈ l, tok b = true) (j : Nat) (hj : j < l.length) : l[j] ≠ 47 := by
  intro e
  have := h _ (List.getElem_mem hj)
  rw [e, tok_47] at this; cases this
theorem lower_append (a b : List UInt8) : Ch.lower (a ++ b) = Ch.lower a ++ Ch.lower b := by simp [Ch.lower]
theorem lower_47 : Ch.lower [47] = [47] := by decide
/-- a value's word is one token, or two with a stroke between them -/
theorem wordOk_iff (wd : List UInt8) : wordOk wd = true ↔ Ch.lower wd = wd ∧ (Ch.isToken wd = true ∨ ∃ a b, wd = a ++ 47 :: b ∧ Ch.isToken a = true ∧ Ch.isToken b = true) := by
  unfold wordOk
  rw [Bool.and_eq_true, decide_eq_true_eq]
  refine and_congr_right fun _ => ?_
  constructor
  · intro h
    split at h
    · exact Or.inl h
    · rename_i hne
      rw [Bool.and_eq_true] at h
      have hlt : Fd.at_ 47 wd < wd.length := by have := Fd.at_le 47 wd; omega
      refine Or.inr ⟨_, _, ?_, h.1, h.2⟩
      have := Fd.at_here hlt
      conv => lhs; rw [← List.take_append_drop (Fd.at_ 47 wd) wd, List.drop_eq_getElem_cons hlt, this]
  · rintro (h | ⟨a, b, rfl, ha, hb⟩)
    · have : Fd.at_ 47 wd = wd.length := Fd.at_none fun j hj => tok_no47 ((isToken_iff wd).1 h).2 j hj
      rw [if_pos this]; exact h
    · have hat : Fd.at_ 47 (a ++ 47 :: b) = a.length := by
        refine Fd.at_is (by simp) (by simp) fun j hj => ?_
        have := tok_no47 ((isToken_iff a).1 ha).2 j hj
        simpa [List.getElem_append, hj] using this
      rw [hat, if_neg (by simp)]
      simp [ha, hb]
theorem dropBlank {a : List UInt8} (h : Ch.isToken a = true) (r : List UInt8) : (a ++ r).dropWhile blank = a ++ r := by
  obtain ⟨hne, hall⟩ := (isToken_iff a).1 h
  cases a with
  | nil => exact absurd rfl hne
  | cons c t =>
    rw [List.cons_append, List.dropWhile_cons, tok_blank c (hall c (List.mem_cons_self ..))]
    rfl
theorem wrd_word (wd r : List UInt8) (h : wordOk wd = true) (hr : Next r) : wrd (wd ++ r) = .inr (wd, r) := by
  obtain ⟨hl, h | ⟨a, b, rfl, ha, hb⟩⟩ := (wordOk_iff wd).1 h
  · have hd := dropBlank h r
    obtain ⟨hne, hall⟩ := (isToken_iff wd).1 h
    have ht := takeW wd r hall hr.tok
    unfold wrd
    simp only [hd, ht.1, ht.2]
    rw [if_neg hne, if_neg, hl]
    intro e
    rcases hr with rfl | hr
    · simp at e
    · rw [hr] at e; simp at e
  · have e : a ++ 47 :: b ++ r = a ++ (47 :: (b ++ r)) := by simp
    have hd := dropBlank ha (47 :: (b ++ r))
    obtain ⟨hna, halla⟩ := (isToken_iff a).1 ha
    obtain ⟨hnb, hallb⟩ := (isToken_iff b).1 hb
    have ht := takeW a (47 :: (b ++ r)) halla (fun c hc => by simp at hc; subst hc; exact tok_47)
    have ht2 := takeW b r hallb hr.tok
    unfold wrd
    rw [e]
    simp only [hd, ht.1, ht.2, List.tail_cons, ht2.1, ht2.2]
    rw [if_neg hna, List.head?_cons, if_pos rfl, if_neg hnb]
    have : Ch.lower a ++ [47] ++ Ch.lower b = a ++ 47 :: b := by
      have h2 : Ch.lower (a ++ 47 :: b) = Ch.lower a ++ ([47] ++ Ch.lower b) := by
        rw [show a ++ 47 :: b = a ++ ([47] ++ b) by simp, lower_append, lower_append, lower_47]
      rw [← hl, h2]; simp
    rw [this]
theorem seen_append (a b : List UInt8) : Ch.isVisible (a ++ b) = (Ch.isVisible a && Ch.isVisible b) := by simp [Ch.isVisible]
theorem seen_tok {l : List UInt8} (h : Ch.isToken l = true) : Ch.isVisible l = true := by
  unfold Ch.isVisible
  rw [List.all_eq_true]
  exact fun b hb => tok_seen b (((isToken_iff l).1 h).2 b hb)
theorem seen_esc (v : List UInt8) (h : Ch.isVisible v = true) : Ch.isVisible (esc v) = true := by
  unfold Ch.isVisible esc at *
  rw [List.all_flatMap, List.all_eq_true]
  intro c hc
  have := List.all_eq_true.1 h c hc
  unfold escB
  split
  · simp only [List.all_cons, List.all_nil, Bool.and_true, this]; decide
  · simp only [List.all_cons, List.all_nil, Bool.and_true, this]
theorem seen_one (p : Par) (h1 : Ch.isToken p.1 = true) (h2 : Ch.isVisible p.2 = true) : Ch.isVisible (one p) = true := by
  unfold one
  rw [seen_append, seen_append, seen_append, seen_tok h1]
  have e1 : Ch.isVisible [59, 32] = true := by decide
  have e2 : Ch.isVisible [61] = true := by decide
  have e3 : Ch.isVisible [34] = true := by decide
  rw [e1, e2]
  split
  · rw [h2]; rfl
  · rw [seen_append, seen_append, e3, seen_esc _ h2]; rfl
theorem seen_texts : ∀ (ps seen : List Par), Good seen ps → Ch.isVisible (texts ps) = true
  | [], _, _ => rfl
  | p :: t, seen, h => by
    obtain ⟨h1, _, _, h4, h5⟩ := h
    have e : texts (p :: t) = one p ++ texts t := by simp [texts]
    rw [e, seen_append, seen_one p h1 h4, seen_texts t _ h5]; rfl
theorem seen_word (wd : List UInt8) (h : wordOk wd = true) : Ch.isVisible wd = true := by
  obtain ⟨_, h | ⟨a, b, rfl, ha, hb⟩⟩ := (wordOk_iff wd).1 h
  · exact seen_tok h
  · rw [show a ++ 47 :: b = a ++ ([47] ++ b) by simp, seen_append, seen_append, seen_tok ha, seen_tok hb]; decide
/-- a value that has a text -/
structure Fine (wd : List UInt8) (ps : List Par) : Prop where
  word : wordOk wd = true
  few : ps.length ≤ 8
  good : Good [] ps
theorem text_fine {wd : List UInt8} {ps : List Par} (h : Fine wd ps) : text wd ps = .inr (wd ++ texts ps) := by
  unfold text
  rw [if_neg (by rw [h.word]; simp), if_neg (by have := h.few; omega), txt_good _ _ _ h.good]
theorem fine_text {wd : List UInt8} {ps : List Par} {t : List UInt8} (h : text wd ps = .inr t) : Fine wd ps ∧ t = wd ++ texts ps := by
  unfold text at h
  split at h
  · cases h
  · rename_i h1
    split at h
    · cases h
    · rename_i h2
      obtain ⟨hg, rfl⟩ := good_txt _ _ _ _ h
      exact ⟨⟨by simpa using h1, by omega, hg⟩, rfl⟩
/-- there -/
theorem media_text {wd : List UInt8} {ps : List Par} (h : Fine wd ps) : media (wd ++ texts ps) = .inr (wd, ps) := by
  unfold media
  rw [if_neg (by rw [seen_append, seen_word _ h.word, seen_texts _ _ h.good]; simp), wrd_word wd _ h.word (texts_next ps)]
  simp only [fin]
  rw [pars_texts ps _ [] h.good (by have := h.few; simpa using this) (by have := texts_length ps; rw [List.length_append]; omega)]
  rfl
/-- what is read of visible bytes is visible -/
theorem seen_sub {a b : List UInt8} (h : ∀ c ∈ a, c ∈ b) (hb : Ch.isVisible b = true) : Ch.isVisible a = true := by
  unfold Ch.isVisible at *
  rw [List.all_eq_true] at *
  exact fun c hc => hb c (h c hc)
theorem quo_mem (n : Nat) : ∀ (acc t v r : List UInt8), t.length ≤ n → quo acc t = some (v, r) → (∀ c ∈ v, c ∈ acc ∨ c ∈ t) ∧ (∀ c ∈ r, c ∈ t) := by
  induction n with
  | zero =>
    intro acc t v r h e
    obtain rfl : t = [] := List.eq_nil_of_length_eq_zero (by omega)
    rw [quo_nil] at e; cases e
  | succ n ih =>
    intro acc t v r h e
    cases t with
    | nil => rw [quo_nil] at e; cases e
    | cons c t =>
      by_cases h1 : c = 34
      · subst h1
        rw [quo_end] at e
        injection e with e; injection e with e1 e2
        subst e1; subst e2
        exact ⟨fun c hc => Or.inl hc, fun c hc => List.mem_cons_of_mem _ hc⟩
      · by_cases h2 : c = 92
        · subst h2
          cases t with
          | nil => rw [quo_back_nil] at e; cases e
          | cons d t =>
            rw [quo_back] at e
            have := ih _ _ _ _ (by simp at h ⊢; omega) e
            refine ⟨fun c hc => ?_, fun c hc => by have := this.2 c hc; simp [this]⟩
            rcases this.1 c hc with g | g
            · rw [List.mem_append, List.mem_singleton] at g
              rcases g with g | g
              · exact Or.inl g
              · right; simp [g]
            · right; simp [g]
        · rw [quo_byte _ _ _ h1 h2] at e
          have := ih _ _ _ _ (by simp at h ⊢; omega) e
          refine ⟨fun c hc => ?_, fun c hc => by have := this.2 c hc; simp [this]⟩
          rcases this.1 c hc with g | g
          · rw [List.mem_append, List.mem_singleton] at g
            rcases g with g | g
            · exact Or.inl g
            · right; simp [g]
          · right; simp [g]
theorem mem_of_dropWhile {p : UInt8 → Bool} {l : List UInt8} {c : UInt8} (h : c ∈ l.dropWhile p) : c ∈ l := (List.dropWhile_suffix (l := l) p).subset h
theorem mem_of_takeWhile {p : UInt8 → Bool} {l : List UInt8} {c : UInt8} (h : c ∈ l.takeWhile p) : c ∈ l := (List.takeWhile_prefix (l := l) p).subset h
theorem val_mem {r v r' : List UInt8} (h : val r = .inr (v, r')) : (∀ c ∈ v, c ∈ r) ∧ (∀ c ∈ r', c ∈ r) := by
  unfold val at h
  split at h
  · split at h
    · cases h
    · rename_i x hq
      injection h with h; subst h
      have := quo_mem _ _ _ _ _ (Nat.le_refl _) hq
      exact ⟨fun c hc => by
        rcases this.1 c hc with g | g
        · simp at g
        · exact List.mem_of_mem_tail g, fun c hc => List.mem_of_mem_tail (this.2 c hc)⟩
  · split at h
    · cases h
    · injection h with h; injection h with h1 h2
      subst h1; subst h2
      exact ⟨fun c hc => mem_of_takeWhile hc, fun c hc => mem_of_dropWhile hc⟩
theorem par_good {r r' : List UInt8} {p : Par} (h : par r = .inr (p, r')) : Ch.isToken p.1 = true ∧ Ch.lower p.1 = p.1 ∧ (∀ c ∈ p.2, c ∈ r) ∧ (∀ c ∈ r', c ∈ r) := by
  unfold par at h
  split at h
  · simp only [] at h
    split at h
    · cases h
    · rename_i h1
      split at h
      · split at h
        · cases h
        · rename_i x hv
          injection h with h; injection h with e1 e2
          subst e1; subst e2
          have hm := val_mem (v := x.1) (r' := x.2) hv
          have up : ∀ c, c ∈ ((r.tail.dropWhile blank).dropWhile tok).tail → c ∈ r := fun c hc => List.mem_of_mem_tail (mem_of_dropWhile (mem_of_dropWhile (List.mem_of_mem_tail hc)))
          refine ⟨?_, Ch.lower_again _, fun c hc => up c (hm.1 c hc), fun c hc => up c (hm.2 c hc)⟩
          rw [Ch.lower_token, isToken_iff]
          exact ⟨h1, takeWhile_all _⟩
      · cases h
  · cases h
theorem good_snoc : ∀ (ps seen : List Par) (p : Par), Good seen ps → Ch.isToken p.1 = true → Ch.lower p.1 = p.1 → ((seen ++ ps).any fun q => q.1 == p.1) = false → Ch.isVisible p.2 = true → Good seen (ps ++ [p])
  | [], seen, p, _, h1, h2, h3, h4 => ⟨h1, h2, by simpa using h3, h4, trivial⟩
  | q :: t, seen, p, h, h1, h2, h3, h4 => by
    obtain ⟨a, b, c, d, e⟩ := h
    exact ⟨a, b, c, d, good_snoc t _ p e h1 h2 (by simpa using h3) h4⟩
theorem pars_good : ∀ (n : Nat) (r : List UInt8) (acc ps : List Par), Good [] acc → acc.length ≤ 8 → Ch.isVisible r = true → pars n r acc = .inr ps → Good [] ps ∧ ps.length ≤ 8
  | 0, r, acc, ps, hg, h8, _, h => by
    rw [pars] at h; injection h with h; subst h; exact ⟨hg, h8⟩
  | n + 1, r, acc, ps, hg, h8, hv, h => by
    rw [pars] at h
    split at h
    · injection h with h; subst h; exact ⟨hg, h8⟩
    · split at h
      · cases h
      · rename_i x hx
        split at h
        · cases h
        · rename_i h9
          split at h
          · cases h
          · rename_i hne
            obtain ⟨g1, g2, g3, g4⟩ := par_good (p := x.1) (r' := x.2) hx
            refine pars_good n _ _ ps (good_snoc acc [] x.1 hg g1 g2 (by rw [List.nil_append]; exact Bool.eq_false_iff.2 h9) (seen_sub (fun c hc => mem_of_dropWhile (g3 c hc)) hv)) (by rw [List.length_append, List.length_singleton]; omega) (seen_sub (fun c hc => mem_of_dropWhile (g4 c hc)) hv) h
theorem wrd_good {l wd r : List UInt8} (h : wrd l = .inr (wd, r)) : wordOk wd = true ∧ ∀ c ∈ r, c ∈ l := by
  unfold wrd at h
  simp only [] at h
  split at h
  · cases h
  · rename_i h1
    have ha : Ch.isToken ((l.dropWhile blank).takeWhile tok) = true := (isToken_iff _).2 ⟨h1, takeWhile_all _⟩
    split at h
    · split at h
      · cases h
      · rename_i h2
        have hb : Ch.isToken (((l.dropWhile blank).dropWhile tok).tail.takeWhile tok) = true := (isToken_iff _).2 ⟨h2, takeWhile_all _⟩
        injection h with h; injection h with e1 e2
        subst e1; subst e2
        refine ⟨(wordOk_iff _).2 ⟨?_, Or.inr ⟨Ch.lower ((l.dropWhile blank).takeWhile tok), Ch.lower (((l.dropWhile blank).dropWhile tok).tail.takeWhile tok), by rw [List.append_assoc]; rfl, by rw [Ch.lower_token]; exact ha, by rw [Ch.lower_token]; exact hb⟩⟩, fun c hc => mem_of_dropWhile (mem_of_dropWhile (List.mem_of_mem_tail (mem_of_dropWhile hc)))⟩
        rw [lower_append, lower_append, lower_47, Ch.lower_again, Ch.lower_again]
    · injection h with h; injection h with e1 e2
      subst e1; subst e2
      exact ⟨(wordOk_iff _).2 ⟨Ch.lower_again _, Or.inl (by rw [Ch.lower_token]; exact ha)⟩, fun c hc => mem_of_dropWhile (mem_of_dropWhile hc)⟩
/-- and back -/
theorem media_fine {l wd : List UInt8} {ps : List Par} (h : media l = .inr (wd, ps)) : Fine wd ps := by
  unfold media at h
  split at h
  · cases h
  · rename_i hv
    have hv' : Ch.isVisible l = true := by simpa using hv
    split at h
    · cases h
    · rename_i x hx
      unfold fin at h
      split at h
      · cases h
      · rename_i ps' hp
        injection h with h; injection h with e1 e2
        subst e1; subst e2
        obtain ⟨g1, g2⟩ := wrd_good (wd := x.1) (r := x.2) hx
        obtain ⟨g3, g4⟩ := pars_good _ _ [] _ trivial (by simp) (seen_sub g2 hv') hp
        exact ⟨g1, g4, g3⟩
end Go.Proofs.YtjpenioloeplgadGreatDoor.Pm

/- Plain laws of values with parameters: how long they are; with no program in them. -/
namespace Go.Proofs.YtjpenioloeplgadGreatDoor.Pm

theorem takeW_le (p : UInt8 → Bool) (l : List UInt8) : (l.takeWhile p).length ≤ l.length := (List.takeWhile_prefix (l := l) p).length_le
theorem dropW_le (p : UInt8 → Bool) (l : List UInt8) : (l.dropWhile p).length ≤ l.length := (List.dropWhile_suffix (l := l) p).length_le
theorem both_le (p : UInt8 → Bool) (l : List UInt8) : (l.takeWhile p).length + (l.dropWhile p).length = l.length := by
  rw [← List.length_append, List.takeWhile_append_dropWhile]
theorem val_len {r v r' : List UInt8} (h : val r = .inr (v, r')) : v.length ≤ r.length ∧ r'.length ≤ r.length := by
  unfold val at h
  split at h
  · split at h
    · cases h
    · rename_i x hq
      injection h with h; subst h
      have := quo_short _ _ _ _ _ (Nat.le_refl _) hq
      rw [List.length_tail] at this
      simp only [List.length_nil] at this
      omega
  · split at h
    · cases h
    · injection h with h; injection h with h1 h2
      subst h1; subst h2
      exact ⟨takeW_le _ _, dropW_le _ _⟩
theorem par_len {r r' : List UInt8} {p : Par} (h : par r = .inr (p, r')) : p.1.length ≤ r.length ∧ p.2.length ≤ r.length ∧ r'.length ≤ r.length := by
  unfold par at h
  split at h
  · simp only [] at h
    split at h
    · cases h
    · split at h
      · split at h
        · cases h
        · rename_i x hv
          injection h with h; injection h with e1 e2
          subst e1; subst e2
          have h1 := val_len (v := x.1) (r' := x.2) hv
          rw [List.length_tail] at h1
          have h2 := dropW_le tok (r.tail.dropWhile blank)
          have h3 := dropW_le blank r.tail
          have h4 := takeW_le tok (r.tail.dropWhile blank)
          rw [List.length_tail] at h3
          dsimp only
          rw [Ch.lower_length]
          omega
      · cases h
  · cases h
theorem pars_len (N : Nat) : ∀ (n : Nat) (r : List UInt8) (acc ps : List Par), r.length ≤ N → (∀ p ∈ acc, p.1.length ≤ N ∧ p.2.length ≤ N) → pars n r acc = .inr ps → ∀ p ∈ ps, p.1.length ≤ N ∧ p.2.length ≤ N
  | 0, r, acc, ps, _, ha, h => by
    rw [pars] at h; injection h with h; subst h; exact ha
  | n + 1, r, acc, ps, hr, ha, h => by
    rw [pars] at h
    split at h
    · injection h with h; subst h; exact ha
    · split at h
      · cases h
      · rename_i x hx
        split at h
        · cases h
        · split at h
          · cases h
          · have hl := par_len (p := x.1) (r' := x.2) hx
            have hd := dropW_le blank r
            refine pars_len N n x.2 _ ps (by omega) (fun p hp => ?_) h
            rw [List.mem_append, List.mem_singleton] at hp
            rcases hp with hp | rfl
            · exact ha p hp
            · omega
theorem wrd_len {l wd r : List UInt8} (h : wrd l = .inr (wd, r)) : wd.length ≤ l.length ∧ r.length ≤ l.length := by
  unfold wrd at h
  simp only [] at h
  have hd := dropW_le blank l
  have hb := both_le tok (l.dropWhile blank)
  split at h
  · cases h
  · split at h
    · rename_i h47
      split at h
      · cases h
      · injection h with h; injection h with e1 e2
        subst e1; subst e2
        have hb2 := both_le tok ((l.dropWhile blank).dropWhile tok).tail
        rw [List.length_tail] at hb2
        have hp : 0 < ((l.dropWhile blank).dropWhile tok).length := by
          cases hx : (l.dropWhile blank).dropWhile tok with
          | nil => rw [hx] at h47; cases h47
          | cons _ _ => simp
        simp only [List.length_append, Ch.lower_length, List.length_singleton]
        omega
    · injection h with h; injection h with e1 e2
      subst e1; subst e2
      rw [Ch.lower_length]
      omega
/-- what is read is no longer than the text -/
theorem media_len {l wd : List UInt8} {ps : List Par} (h : media l = .inr (wd, ps)) : wd.length ≤ l.length ∧ ∀ p ∈ ps, p.1.length ≤ l.length ∧ p.2.length ≤ l.length := by
  unfold media at h
  split at h
  · cases h
  · split at h
    · cases h
    · rename_i x hx
      unfold fin at h
      split at h
      · cases h
      · rename_i ps' hp
        injection h with h; injection h with e1 e2
        subst e1; subst e2
        obtain ⟨g1, g2⟩ := wrd_len (wd := x.1) (r := x.2) hx
        exact ⟨g1, pars_len l.length _ _ _ _ g2 (fun p hp => by cases hp) hp⟩
theorem texts_len (N : Nat) : ∀ ps : List Par, (∀ p ∈ ps, p.1.length ≤ N ∧ p.2.length ≤ N) → (texts ps).length ≤ ps.length * (5 + 3 * N)
  | [], _ => by simp [texts]
  | p :: t, h => by
    have e : texts (p :: t) = one p ++ texts t := by simp [texts]
    have h1 := one_length p
    have h2 := h p (List.mem_cons_self ..)
    have ih := texts_len N t (fun q hq => h q (List.mem_cons_of_mem _ hq))
    rw [e, List.length_append, List.length_cons, Nat.add_mul]
    omega
theorem text_len {wd : List UInt8} {ps : List Par} {t : List UInt8} (h : text wd ps = .inr t) (hw : wd.length ≤ 2000) (hp : ∀ p ∈ ps, p.1.length ≤ 2000 ∧ p.2.length ≤ 2000) : t.length ≤ 100000 := by
  obtain ⟨hf, rfl⟩ := fine_text h
  have h1 := texts_len 2000 ps hp
  have h2 := hf.few
  have h3 : ps.length * (5 + 3 * 2000) ≤ 8 * (5 + 3 * 2000) := Nat.mul_le_mul_right _ h2
  rw [List.length_append]
  omega
end Go.Proofs.YtjpenioloeplgadGreatDoor.Pm
