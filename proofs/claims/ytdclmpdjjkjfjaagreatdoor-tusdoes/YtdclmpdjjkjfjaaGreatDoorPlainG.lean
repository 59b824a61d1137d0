/- Plain laws of a head's fields: there and back; with no program in them. -/
import Derived.Test.YtdclmpdjjkjfjaaGreatDoorPk1
namespace Go.Proofs.YtdclmpdjjkjfjaaGreatDoor.Fd

/-- what stands first, as the library looks for it -/
theorem index_at (l : List UInt8) (c : UInt8) : (Lib.indexByte l c = -1 ∧ at_ c l = l.length) ∨ (Lib.indexByte l c = (at_ c l : Int) ∧ at_ c l < l.length) := by
  by_cases h : Lib.indexByte l c = -1
  · refine Or.inl ⟨h, at_none fun j hj e => ?_⟩
    exact Lib.indexByte_none h j (by rw [List.getElem?_eq_getElem hj, e])
  · have hge := Lib.indexByte_ge l c
    obtain ⟨o, ho⟩ : ∃ o : Nat, Lib.indexByte l c = o := ⟨(Lib.indexByte l c).toNat, by omega⟩
    obtain ⟨h1, h2⟩ := Lib.indexByte_some ho
    obtain ⟨hlt, he⟩ := List.getElem?_eq_some_iff.1 h1
    have : at_ c l = o := at_is hlt he fun j hj e => h2 j hj (by rw [List.getElem?_eq_getElem (by omega), e])
    refine Or.inr ⟨by rw [ho, this], by omega⟩

theorem all_dropWhile (p q : UInt8 → Bool) (h : ∀ b, q b = true → p b = true) : ∀ l : List UInt8, (l.dropWhile q).all p = l.all p
  | [] => rfl
  | a :: t => by
    rw [List.dropWhile_cons]
    cases hq : q a
    · rfl
    · rw [if_pos rfl, all_dropWhile p q h t, List.all_cons, h a hq]; rfl
theorem ws_seen (b : UInt8) (h : Ch.ws.contains b = true) : Ch.visible b.toNat = true := by
  have hb := b.toNat_lt
  have := (show ∀ n : Fin 256, Ch.ws.contains n.val.toUInt8 = true → Ch.visible ((n.val.toUInt8).toNat : Int) = true by decide +kernel) ⟨b.toNat, hb⟩
  have e : b.toNat.toUInt8 = b := by simp
  simp only [e] at this
  exact this h
/-- blanks and tabs are visible -/
theorem seen_trim (l : List UInt8) : Ch.isVisible (Lib.trimS l Ch.ws) = Ch.isVisible l := by
  unfold Ch.isVisible Lib.trimS Lib.trimLeftS Lib.trimRightS
  rw [all_dropWhile _ _ ws_seen, List.all_reverse, all_dropWhile _ _ ws_seen, List.all_reverse]
/-- a field out of a line: its value trimmed first -/
theorem of_trim (l : List UInt8) : of l = if at_ 58 l = l.length then bad 5
    else if Ch.isToken (l.take (at_ 58 l)) = false then bad 6
    else if 40 < at_ 58 l then bad 4
    else if Ch.isVisible (Lib.trimS (l.drop (at_ 58 l + 1)) Ch.ws) = false then bad 3
    else ⟨l.take (at_ 58 l), Lib.trimS (l.drop (at_ 58 l + 1)) Ch.ws, 0⟩ := by
  unfold of; rw [seen_trim]

theorem token_colon (n : List UInt8) (h : Ch.isToken n = true) (j : Nat) (hj : j < n.length) : n[j] ≠ 58 := by
  intro e
  unfold Ch.isToken at h
  rw [Bool.and_eq_true, List.all_eq_true] at h
  have := h.2 _ (List.getElem_mem hj)
  rw [e] at this
  exact absurd this (by decide)
theorem trim_blank (v : List UInt8) : Lib.trimS (32 :: v) Ch.ws = Lib.trimS v Ch.ws := by
  rw [← Ch.trim_both, ← Ch.trim_both]
  rfl
/-- a field that has a text -/
structure Good (n v : List UInt8) : Prop where
  tok : Ch.isToken n = true
  short : n.length ≤ 40
  seen : Ch.isVisible v = true
  trim : Lib.trimS v Ch.ws = v
theorem text_good {n v : List UInt8} (h : Good n v) (hl : n.length + 2 + v.length ≤ 200) : text n v = (n ++ [58, 32] ++ v, 0) := by
  unfold text
  rw [if_neg (by rw [h.tok]; simp), if_neg (by have := h.short; omega), if_neg (by rw [h.seen, h.trim]; simp)]
theorem text_long {n v : List UInt8} (h : Good n v) (hl : ¬ n.length + 2 + v.length ≤ 200) : text n v = ([], 4) := by
  unfold text
  rw [if_neg (by rw [h.tok]; simp), if_pos (by omega)]
theorem text_zero {n v : List UInt8} (h : (text n v).2 = 0) : Good n v ∧ n.length + 2 + v.length ≤ 200 := by
  unfold text at h
  split at h
  · simp at h
  · rename_i h1
    split at h
    · simp at h
    · rename_i h2
      split at h
      · simp at h
      · rename_i h3
        have q : Ch.isVisible v = true := by
          cases e : Ch.isVisible v
          · exact absurd (Or.inl e) h3
          · rfl
        have t : Lib.trimS v Ch.ws = v := by
          by_cases e : Lib.trimS v Ch.ws = v
          · exact e
          · exact absurd (Or.inr e) h3
        exact ⟨⟨by simpa using h1, by omega, q, t⟩, by omega⟩
/-- there -/
theorem of_text {n v : List UInt8} (h : Good n v) : of (n ++ [58, 32] ++ v) = ⟨n, v, 0⟩ := by
  have hlen : (n ++ [58, 32] ++ v).length = n.length + 2 + v.length := by simp; omega
  have hat : at_ 58 (n ++ [58, 32] ++ v) = n.length := by
    refine at_is (by omega) ?_ fun j hj => ?_
    · simp
    · have := token_colon n h.tok j hj
      simpa [List.getElem_append, hj] using this
  have hd : (n ++ [58, 32] ++ v).drop (n.length + 1) = 32 :: v := by
    rw [List.append_assoc, ← List.drop_drop]
    simp
  have ht : (n ++ [58, 32] ++ v).take n.length = n := by rw [List.append_assoc]; simp
  rw [of_trim, hat, hd, ht, trim_blank, h.trim, if_neg (by omega), if_neg (by rw [h.tok]; simp), if_neg (by have := h.short; omega), if_neg (by rw [h.seen]; simp)]
/-- and back -/
theorem of_good {l : List UInt8} (h : (of l).code = 0) : Good (of l).name (of l).value := by
  rw [of_trim] at h ⊢
  split at h
  · simp [bad] at h
  · rename_i h1
    rw [if_neg h1]
    split at h
    · simp [bad] at h
    · rename_i h2
      rw [if_neg h2]
      split at h
      · simp [bad] at h
      · rename_i h3
        rw [if_neg h3]
        split at h
        · simp [bad] at h
        · rename_i h4
          rw [if_neg h4]
          exact ⟨by simpa using h2, by rw [List.length_take]; omega, by simpa using h4, trimS_again _⟩
theorem of_bad {l : List UInt8} (h : (of l).code ≠ 0) : (of l).name = [] ∧ (of l).value = [] := by
  unfold of at h ⊢
  split
  · exact ⟨rfl, rfl⟩
  · rename_i h1
    rw [if_neg h1] at h
    split
    · exact ⟨rfl, rfl⟩
    · rename_i h2
      rw [if_neg h2] at h
      split
      · exact ⟨rfl, rfl⟩
      · rename_i h3
        rw [if_neg h3] at h
        split
        · exact ⟨rfl, rfl⟩
        · rename_i h4
          rw [if_neg h4] at h
          exact absurd rfl h
/-- what is read of a line is no longer than it -/
theorem of_length (l : List UInt8) : (of l).name.length ≤ l.length ∧ (of l).value.length ≤ l.length := by
  unfold of
  split
  · simp [bad]
  · split
    · simp [bad]
    · split
      · simp [bad]
      · split
        · simp [bad]
        · refine ⟨List.length_take_le' .., ?_⟩
          have := trimS_le (l.drop (at_ 58 l + 1))
          rw [List.length_drop] at this
          show (Lib.trimS (l.drop (at_ 58 l + 1)) Ch.ws).length ≤ l.length
          omega
theorem text_length (n v : List UInt8) : (text n v).1.length ≤ n.length + 2 + v.length := by
  unfold text
  split
  · simp
  · split
    · simp
    · split
      · simp
      · simp; omega
end Go.Proofs.YtdclmpdjjkjfjaaGreatDoor.Fd
