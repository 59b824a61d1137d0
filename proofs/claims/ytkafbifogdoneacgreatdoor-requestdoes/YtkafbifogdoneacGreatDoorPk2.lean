/- Small texts, one behind the other: PlainCB, PlainCW. -/
import Derived.Test.YtkafbifogdoneacGreatDoorPk1
/- Plain laws of a body in chunks: there and back. -/
namespace Go.Proofs.YtkafbifogdoneacGreatDoor.Ck

theorem line_of (t r : List UInt8) (hv : ∀ b ∈ t, Ch.visible b.toNat = true) (hl : t.length ≤ 200) : Ln.of (t ++ 13 :: 10 :: r) = ⟨t, t.length + 2, true, 0⟩ := by
  rw [Ln.go_skip (t ++ 13 :: 10 :: r) t.length (by simp) hl (fun b hb => hv b (by simpa using hb))]
  have hlt : t.length < (t ++ 13 :: 10 :: r).length := by simp
  rw [Ln.go_at _ _ hlt]
  have e0 : (t ++ 13 :: 10 :: r)[t.length] = 13 := by simp
  have h2 : t.length + 1 < (t ++ 13 :: 10 :: r).length := by simp
  have e1 : (t ++ 13 :: 10 :: r)[t.length + 1] = 10 := by
    rw [List.getElem_append_right (by omega)]; simp
  rw [if_pos e0, dif_pos h2, if_pos e1]
  simp
/-- digits to the base 16 -/
theorem hexs_in : ∀ j, j < 16 → Ch.hexs.getD j 0 ∈ Ch.hexs := fun j hj => (show ∀ j : Fin 16, Ch.hexs.getD j.val 0 ∈ Ch.hexs by decide) ⟨j, hj⟩
theorem hexF_in : ∀ (f n : Nat), n < 16 ^ (f + 1) → ∀ b ∈ Ch.hexF f n, b ∈ Ch.hexs
  | 0, n, h, b, hb => by
    have : b = Ch.hexs.getD n 0 := by simpa [Ch.hexF] using hb
    rw [this]; exact hexs_in n (by simpa using h)
  | f + 1, n, h, b, hb => by
    unfold Ch.hexF at hb
    split at hb
    · rename_i hn
      have : b = Ch.hexs.getD n 0 := by simpa using hb
      rw [this]; exact hexs_in n hn
    · rw [List.mem_append, List.mem_singleton] at hb
      rcases hb with hb | rfl
      · exact hexF_in f (n / 16) (by rw [Nat.pow_succ] at h; omega) b hb
      · exact hexs_in _ (by omega)
theorem hexs_fine : ∀ b ∈ Ch.hexs, Ch.visible b.toNat = true ∧ b ≠ 59 ∧ Ch.ws.contains b = false := by decide
theorem trim_none {t : List UInt8} (h : ∀ b ∈ t, Ch.ws.contains b = false) : Lib.trimS t Ch.ws = t := by
  have key : ∀ u : List UInt8, (∀ b ∈ u, Ch.ws.contains b = false) → u.dropWhile (Ch.ws.contains ·) = u := by
    intro u hu
    cases u with
    | nil => rfl
    | cons a v => rw [List.dropWhile_cons, hu a (List.mem_cons_self ..)]; rfl
  unfold Lib.trimS Lib.trimLeftS Lib.trimRightS
  rw [key t.reverse (fun b hb => h b (List.mem_reverse.1 hb)), List.reverse_reverse, key t h]
theorem at_none59 {t : List UInt8} (h : ∀ b ∈ t, b ≠ 59) : Fd.at_ 59 t = t.length := Fd.at_none fun _ hj => h _ (List.getElem_mem hj)
/-- a size's own line -/
theorem size_hex (n : Nat) (h : n < 16777216) : size (Ch.hexF 5 n) = ((n : Int), true) := by
  have hi := hexF_in 5 n (by simpa using h)
  unfold size
  rw [at_none59 (fun b hb => (hexs_fine b (hi b hb)).2.1), List.take_length, trim_none (fun b hb => (hexs_fine b (hi b hb)).2.2)]
  exact Ch.number_hex n h
theorem line_hex (n : Nat) (h : n < 16777216) (r : List UInt8) : Ln.of (Ch.hexF 5 n ++ 13 :: 10 :: r) = ⟨Ch.hexF 5 n, (Ch.hexF 5 n).length + 2, true, 0⟩ :=
  line_of _ r (fun b hb => (hexs_fine b (hexF_in 5 n (by simpa using h) b hb)).1) (by have := (Ch.hexF_length 5 n).1; omega)
/-- a list of bytes as a chunk -/
def one (x : List UInt8) : List UInt8 := if x = [] then [] else Ch.hexF 5 x.length ++ [13, 10] ++ x ++ [13, 10]
/-- lists of bytes in chunks -/
def text (ls : List (List UInt8)) : List UInt8 := ls.flatMap one ++ [48, 13, 10, 13, 10]
theorem go_text : ∀ (ls : List (List UInt8)) (f n : Nat), (text ls).length < f → n + ls.flatten.length ≤ 4000 → go f (text ls) n = ⟨ls.flatten, (text ls).length, true, 0⟩
  | [], 0, n, hf, _ => by omega
  | [], f + 1, n, hf, hn => by
    have e : text [] = [48] ++ 13 :: 10 :: [13, 10] := rfl
    have h1 : Ln.of (text []) = ⟨[48], 3, true, 0⟩ := by rw [e]; exact line_of [48] [13, 10] (by decide) (by decide)
    have h2 : size [48] = (0, true) := size_hex 0 (by omega)
    have h3 : Ln.of [13, 10] = ⟨[], 2, true, 0⟩ := line_of [] [] (by decide) (by decide)
    have hd : (text []).drop 3 = [13, 10] := rfl
    rw [go, h1]
    simp only []
    rw [if_neg (by simp), h2]
    simp only []
    rw [if_neg (by simp), if_neg (by simp at hn ⊢; omega), if_pos (by simp), hd, trail, h3]
    simp only []
    rw [if_neg (by simp), if_pos trivial]
    rfl
  | x :: ls, 0, n, hf, _ => by omega
  | x :: ls, f + 1, n, hf, hn => by
    by_cases hx : x = []
    · subst hx
      have e : text ([] :: ls) = text ls := by simp [text, one]
      rw [e] at hf ⊢
      have e2 : ([] :: ls : List (List UInt8)).flatten = ls.flatten := by simp
      rw [e2] at hn ⊢
      exact go_text ls (f + 1) n hf hn
    · have hfl : (x :: ls).flatten.length = x.length + ls.flatten.length := by simp
      rw [hfl] at hn
      have hxl : 0 < x.length := List.length_pos_iff.2 hx
      have hlt : x.length < 16777216 := by omega
      have e : text (x :: ls) = Ch.hexF 5 x.length ++ 13 :: 10 :: (x ++ 13 :: 10 :: text ls) := by
        simp [text, one, hx]
      have h1 : Ln.of (text (x :: ls)) = ⟨Ch.hexF 5 x.length, (Ch.hexF 5 x.length).length + 2, true, 0⟩ := by rw [e]; exact line_hex _ hlt _
      have hd : (text (x :: ls)).drop ((Ch.hexF 5 x.length).length + 2) = x ++ 13 :: 10 :: text ls := by
        rw [e, ← List.drop_drop, List.drop_left]; rfl
      have h3 : Ln.of (13 :: 10 :: text ls) = ⟨[], 2, true, 0⟩ := line_of [] (text ls) (by simp) (by simp)
      have hs := size_hex x.length hlt
      have hlen : (text (x :: ls)).length = (Ch.hexF 5 x.length).length + 2 + x.length + 2 + (text ls).length := by
        rw [e]; simp; omega
      rw [go, h1]
      simp only []
      rw [if_neg (by simp), hs]
      simp only [Int.toNat_natCast]
      rw [if_neg (by simp), if_neg (by omega), if_neg (by omega), hd, if_neg (by simp), List.drop_left, List.take_left, h3]
      simp only []
      rw [if_neg (by simp), if_neg (by simp)]
      have hdd : List.drop 2 (13 :: 10 :: text ls) = text ls := rfl
      rw [hdd, go_text ls f (n + x.length) (by omega) (by omega), hlen]
      simp
/-- there and back -/
theorem of_text (ls : List (List UInt8)) (h : ls.flatten.length ≤ 4000) : of (text ls) = ⟨ls.flatten, (text ls).length, true, 0⟩ := go_text ls _ 0 (by omega) (by omega)
theorem run_text (ls : List (List UInt8)) (h : ls.flatten.length ≤ 4000) : run start (text ls) = ⟨ls.flatten, (text ls).length, true, 0⟩ := by
  have hs := of_run (text ls)
  rw [of_text ls h] at hs
  have h1 := hs.body
  have h2 := hs.over
  have h3 := hs.code
  have h4 := hs.used (Or.inr rfl)
  cases hr : run start (text ls)
  rw [hr] at h1 h2 h3 h4
  simp only at h1 h2 h3 h4
  subst h1; subst h2; subst h3; subst h4
  rfl
end Go.Proofs.YtkafbifogdoneacGreatDoor.Ck

/- Plain laws of a body in chunks: what each byte brings, in the document's own terms. -/
namespace Go.Proofs.YtkafbifogdoneacGreatDoor.Ck

theorem fold_snoc (s : St) (l : List UInt8) (c : UInt8) : fold s (l ++ [c]) = next (fold s l) c := by simp [fold]
theorem outs_snoc : ∀ (l : List UInt8) (s : St) (c : UInt8), outs s (l ++ [c]) = outs s l ++ out (fold s l) c
  | [], s, c => by simp [outs, fold]
  | d :: t, s, c => by
    show out s d ++ outs (next s d) (t ++ [c]) = (out s d ++ outs (next s d) t) ++ out (fold (next s d) t) c
    rw [outs_snoc t (next s d) c, List.append_assoc]
theorem out_len (s : St) (c : UInt8) : (out s c).length ≤ 1 := by unfold out; split <;> simp
theorem out_code {s : St} {c : UInt8} (h : (next s c).code ≠ 0) : out s c = [] := by
  unfold out
  rw [if_neg]
  rintro ⟨h0, h1⟩
  apply h
  unfold next
  rw [if_neg (by omega), if_neg (by omega), if_pos h1]
  exact h0
/-- what of the body came stays within its bounds -/
theorem take_at (b : List UInt8) (i : Nat) (hi : i < b.length) : fold start (b.take (i + 1)) = next (fold start (b.take i)) b[i] ∧ outs start (b.take (i + 1)) = outs start (b.take i) ++ out (fold start (b.take i)) b[i] := by
  rw [List.take_succ_eq_append_getElem hi]
  exact ⟨fold_snoc _ _ _, outs_snoc _ _ _⟩
theorem outs_le : ∀ (l : List UInt8) (s : St), (outs s l).length ≤ l.length
  | [], _ => Nat.le_refl _
  | c :: t, s => by
    have h1 := out_len s c
    have h2 := outs_le t (next s c)
    show (out s c ++ outs (next s c) t).length ≤ t.length + 1
    rw [List.length_append]; omega
/-- byte by byte, in terms of what is told of all bytes -/
theorem told_at (b : List UInt8) (i : Nat) (hi : i < b.length) :
    (next (fold start (b.take i)) b[i]).code = (if (of b).code ≠ 0 ∧ (of b).used ≤ i + 1 then (of b).code else if (of b).over = true ∧ (of b).used ≤ i then 18 else 0) ∧
    over (fold start (b.take i)) b[i] = decide ((of b).over = true ∧ i + 1 = (of b).used) := by
  have hs := of_run b
  obtain ⟨h1, h2⟩ := run_at b start rfl (by show (0 : Nat) ≠ 4; omega) i hi
  rw [h1, h2, ← hs.code, ← hs.over]
  constructor
  · by_cases hc : (of b).code = 0
    · simp only [hc, ne_eq, not_true_eq_false, false_and, if_false]
      cases ho : (of b).over
      · simp
      · rw [hs.used (Or.inr ho)]
    · rw [hs.used (Or.inl hc)]
  · cases ho : (of b).over
    · simp
    · rw [hs.used (Or.inr ho)]
theorem told_body (b : List UInt8) : outs start b = (of b).body := by
  rw [run_outs]; exact (of_run b).body.symm
theorem of_used (b : List UInt8) (h : (of b).code ≠ 0 ∨ (of b).over = true) : 1 ≤ (of b).used ∧ (of b).used ≤ b.length := by
  have hs := of_run b
  rw [hs.used h]
  refine run_used b start ?_
  rw [← hs.code, ← hs.over]; exact h
/-- what was written, byte by byte -/
theorem back_at (ls : List (List UInt8)) (h : ls.flatten.length ≤ 4000) (i : Nat) (hi : i < (text ls).length) :
    (next (fold start ((text ls).take i)) (text ls)[i]).code = 0 ∧ over (fold start ((text ls).take i)) (text ls)[i] = decide (i + 1 = (text ls).length) := by
  obtain ⟨h1, h2⟩ := told_at (text ls) i hi
  rw [of_text ls h] at h1 h2
  rw [h1, h2]
  constructor
  · rw [if_neg (by simp), if_neg]
    rintro ⟨_, e⟩
    have : (text ls).length ≤ i := e
    omega
  · simp
theorem back_body (ls : List (List UInt8)) (h : ls.flatten.length ≤ 4000) : outs start (text ls) = ls.flatten := by
  rw [told_body, of_text ls h]
end Go.Proofs.YtkafbifogdoneacGreatDoor.Ck
