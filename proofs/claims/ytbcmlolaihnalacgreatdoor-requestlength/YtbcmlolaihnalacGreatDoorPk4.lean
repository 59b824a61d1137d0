/- Small texts, one behind the other: PlainCB, PlainCW, PlainRA, PlainRB. -/
import Derived.Test.YtbcmlolaihnalacGreatDoorPk2
import Derived.Test.YtbcmlolaihnalacGreatDoorPk3
/- Plain laws of a body in chunks: there and back. -/
namespace Go.Proofs.YtbcmlolaihnalacGreatDoor.Ck

theorem line_of (t r : List UInt8) (hv : ∀ b ∈ t, Ch.visible b.toNat = true) (hl : t.length ≤ 200) : Ln.of (t ++ 13 :: 10 :: r) = ⟨t, t.length + 2, true, 0⟩ := by
  rw [Ln.go_skip (t ++ 13 :: 10 :: r) t.length (by simp) hl (fun b hb => hv b (by simpa using hb))]
  have hlt : t.length < (t ++ 13 :: 10 :: r).length := by simp
  rw [Ln.go_at _ _ hlt]
  have e0 : (t ++ 13 :: 10 :: r)[t.length] = 13 := by simp
  have h2 : t.length + 1 < (t ++ 13 :: 10 :: r).length := by simp
  have e1 : (t ++ 13 :: 10 :: r)[t.length + 1] = 10 := by
    rw [List.getElem_append_right (by omega)]; simp
  rw [if_pos e0, dif_pos h2, if_pos e1]
  simp
/-- digits to the base 16 -/
theorem hexs_in : ∀ j, j < 16 → Ch.hexs.getD j 0 ∈ Ch.hexs := fun j hj => (show ∀ j : Fin 16, Ch.hexs.getD j.val 0 ∈ Ch.hexs by decide) ⟨j, hj⟩
theorem hexF_in : ∀ (f n : Nat), n < 16 ^ (f + 1) → ∀ b ∈ Ch.hexF f n, b ∈ Ch.hexs
  | 0, n, h, b, hb => by
    have : b = Ch.hexs.getD n 0 := by simpa [Ch.hexF] using hb
    rw [this]; exact hexs_in n (by simpa using h)
  | f + 1, n, h, b, hb => by
    unfold Ch.hexF at hb
    split at hb
    · rename_i hn
      have : b = Ch.hexs.getD n 0 := by simpa using hb
      rw [this]; exact hexs_in n hn
    · rw [List.mem_append, List.mem_singleton] at hb
      rcases hb with hb | rfl
      · exact hexF_in f (n / 16) (by rw [Nat.pow_succ] at h; omega) b hb
      · exact hexs_in _ (by omega)
theorem hexs_fine : ∀ b ∈ Ch.hexs, Ch.visible b.toNat = true ∧ b ≠ 59 ∧ Ch.ws.contains b = false := by decide
theorem trim_none {t : List UInt8} (h : ∀ b ∈ t, Ch.ws.contains b = false) : Lib.trimS t Ch.ws = t := by
  have key : ∀ u : List UInt8, (∀ b ∈ u, Ch.ws.contains b = false) → u.dropWhile (Ch.ws.contains ·) = u := by
    intro u hu
    cases u with
    | nil => rfl
    | cons a v => rw [List.dropWhile_cons, hu a (List.mem_cons_self ..)]; rfl
  unfold Lib.trimS Lib.trimLeftS Lib.trimRightS
  rw [key t.reverse (fun b hb => h b (List.mem_reverse.1 hb)), List.reverse_reverse, key t h]
theorem at_none59 {t : List UInt8} (h : ∀ b ∈ t, b ≠ 59) : Fd.at_ 59 t = t.length := Fd.at_none fun _ hj => h _ (List.getElem_mem hj)
/-- a size's own line -/
theorem size_hex (n : Nat) (h : n < 16777216) : size (Ch.hexF 5 n) = ((n : Int), true) := by
  have hi := hexF_in 5 n (by simpa using h)
  unfold size
  rw [at_none59 (fun b hb => (hexs_fine b (hi b hb)).2.1), List.take_length, trim_none (fun b hb => (hexs_fine b (hi b hb)).2.2)]
  exact Ch.number_hex n h
theorem line_hex (n : Nat) (h : n < 16777216) (r : List UInt8) : Ln.of (Ch.hexF 5 n ++ 13 :: 10 :: r) = ⟨Ch.hexF 5 n, (Ch.hexF 5 n).length + 2, true, 0⟩ :=
  line_of _ r (fun b hb => (hexs_fine b (hexF_in 5 n (by simpa using h) b hb)).1) (by have := (Ch.hexF_length 5 n).1; omega)
/-- a list of bytes as a chunk -/
def one (x : List UInt8) : List UInt8 := if x = [] then [] else Ch.hexF 5 x.length ++ [13, 10] ++ x ++ [13, 10]
/-- lists of bytes in chunks -/
def text (ls : List (List UInt8)) : List UInt8 := ls.flatMap one ++ [48, 13, 10, 13, 10]
theorem go_text : ∀ (ls : List (List UInt8)) (f n : Nat), (text ls).length < f → n + ls.flatten.length ≤ 4000 → go f (text ls) n = ⟨ls.flatten, (text ls).length, true, 0⟩
  | [], 0, n, hf, _ => by omega
  | [], f + 1, n, hf, hn => by
    have e : text [] = [48] ++ 13 :: 10 :: [13, 10] := rfl
    have h1 : Ln.of (text []) = ⟨[48], 3, true, 0⟩ := by rw [e]; exact line_of [48] [13, 10] (by decide) (by decide)
    have h2 : size [48] = (0, true) := size_hex 0 (by omega)
    have h3 : Ln.of [13, 10] = ⟨[], 2, true, 0⟩ := line_of [] [] (by decide) (by decide)
    have hd : (text []).drop 3 = [13, 10] := rfl
    rw [go, h1]
    simp only []
    rw [if_neg (by simp), h2]
    simp only []
    rw [if_neg (by simp), if_neg (by simp at hn ⊢; omega), if_pos (by simp), hd, trail, h3]
    simp only []
    rw [if_neg (by simp), if_pos trivial]
    rfl
  | x :: ls, 0, n, hf, _ => by omega
  | x :: ls, f + 1, n, hf, hn => by
    by_cases hx : x = []
    · subst hx
      have e : text ([] :: ls) = text ls := by simp [text, one]
      rw [e] at hf ⊢
      have e2 : ([] :: ls : List (List UInt8)).flatten = ls.flatten := by simp
      rw [e2] at hn ⊢
      exact go_text ls (f + 1) n hf hn
    · have hfl : (x :: ls).flatten.length = x.length + ls.flatten.length := by simp
      rw [hfl] at hn
      have hxl : 0 < x.length := List.length_pos_iff.2 hx
      have hlt : x.length < 16777216 := by omega
      have e : text (x :: ls) = Ch.hexF 5 x.length ++ 13 :: 10 :: (x ++ 13 :: 10 :: text ls) := by
        simp [text, one, hx]
      have h1 : Ln.of (text (x :: ls)) = ⟨Ch.hexF 5 x.length, (Ch.hexF 5 x.length).length + 2, true, 0⟩ := by rw [e]; exact line_hex _ hlt _
      have hd : (text (x :: ls)).drop ((Ch.hexF 5 x.length).length + 2) = x ++ 13 :: 10 :: text ls := by
        rw [e, ← List.drop_drop, List.drop_left]; rfl
      have h3 : Ln.of (13 :: 10 :: text ls) = ⟨[], 2, true, 0⟩ := line_of [] (text ls) (by simp) (by simp)
      have hs := size_hex x.length hlt
      have hlen : (text (x :: ls)).length = (Ch.hexF 5 x.length).length + 2 + x.length + 2 + (text ls).length := by
        rw [e]; simp; omega
      rw [go, h1]
      simp only []
      rw [if_neg (by simp), hs]
      simp only [Int.toNat_natCast]
      rw [if_neg (by simp), if_neg (by omega), if_neg (by omega), hd, if_neg (by simp), List.drop_left, List.take_left, h3]
      simp only []
      rw [if_neg (by simp), if_neg (by simp)]
      have hdd : List.drop 2 (13 :: 10 :: text ls) = text ls := rfl
      rw [hdd, go_text ls f (n + x.length) (by omega) (by omega), hlen]
      simp
/-- there and back -/
theorem of_text (ls : List (List UInt8)) (h : ls.flatten.length ≤ 4000) : of (text ls) = ⟨ls.flatten, (text ls).length, true, 0⟩ := go_text ls _ 0 (by omega) (by omega)
theorem run_text (ls : List (List UInt8)) (h : ls.flatten.length ≤ 4000) : run start (text ls) = ⟨ls.flatten, (text ls).length, true, 0⟩ := by
  have hs := of_run (text ls)
  rw [of_text ls h] at hs
  have h1 := hs.body
  have h2 := hs.over
  have h3 := hs.code
  have h4 := hs.used (Or.inr rfl)
  cases hr : run start (text ls)
  rw [hr] at h1 h2 h3 h4
  simp only at h1 h2 h3 h4
  subst h1; subst h2; subst h3; subst h4
  rfl
end Go.Proofs.YtbcmlolaihnalacGreatDoor.Ck

/- Plain laws of a body in chunks: what each byte brings, in the document's own terms. -/
namespace Go.Proofs.YtbcmlolaihnalacGreatDoor.Ck

theorem fold_snoc (s : St) (l : List UInt8) (c : UInt8) : fold s (l ++ [c]) = next (fold s l) c := by simp [fold]
theorem outs_snoc : ∀ (l : List UInt8) (s : St) (c : UInt8), outs s (l ++ [c]) = outs s l ++ out (fold s l) c
  | [], s, c => by simp [outs, fold]
  | d :: t, s, c => by
    show out s d ++ outs (next s d) (t ++ [c]) = (out s d ++ outs (next s d) t) ++ out (fold (next s d) t) c
    rw [outs_snoc t (next s d) c, List.append_assoc]
theorem out_len (s : St) (c : UInt8) : (out s c).length ≤ 1 := by unfold out; split <;> simp
theorem out_code {s : St} {c : UInt8} (h : (next s c).code ≠ 0) : out s c = [] := by
  unfold out
  rw [if_neg]
  rintro ⟨h0, h1⟩
  apply h
  unfold next
  rw [if_neg (by omega), if_neg (by omega), if_pos h1]
  exact h0
/-- what of the body came stays within its bounds -/
theorem take_at (b : List UInt8) (i : Nat) (hi : i < b.length) : fold start (b.take (i + 1)) = next (fold start (b.take i)) b[i] ∧ outs start (b.take (i + 1)) = outs start (b.take i) ++ out (fold start (b.take i)) b[i] := by
  rw [List.take_succ_eq_append_getElem hi]
  exact ⟨fold_snoc _ _ _, outs_snoc _ _ _⟩
theorem outs_le : ∀ (l : List UInt8) (s : St), (outs s l).length ≤ l.length
  | [], _ => Nat.le_refl _
  | c :: t, s => by
    have h1 := out_len s c
    have h2 := outs_le t (next s c)
    show (out s c ++ outs (next s c) t).length ≤ t.length + 1
    rw [List.length_append]; omega
/-- byte by byte, in terms of what is told of all bytes -/
theorem told_at (b : List UInt8) (i : Nat) (hi : i < b.length) :
    (next (fold start (b.take i)) b[i]).code = (if (of b).code ≠ 0 ∧ (of b).used ≤ i + 1 then (of b).code else if (of b).over = true ∧ (of b).used ≤ i then 18 else 0) ∧
    over (fold start (b.take i)) b[i] = decide ((of b).over = true ∧ i + 1 = (of b).used) := by
  have hs := of_run b
  obtain ⟨h1, h2⟩ := run_at b start rfl (by show (0 : Nat) ≠ 4; omega) i hi
  rw [h1, h2, ← hs.code, ← hs.over]
  constructor
  · by_cases hc : (of b).code = 0
    · simp only [hc, ne_eq, not_true_eq_false, false_and, if_false]
      cases ho : (of b).over
      · simp
      · rw [hs.used (Or.inr ho)]
    · rw [hs.used (Or.inl hc)]
  · cases ho : (of b).over
    · simp
    · rw [hs.used (Or.inr ho)]
theorem told_body (b : List UInt8) : outs start b = (of b).body := by
  rw [run_outs]; exact (of_run b).body.symm
theorem of_used (b : List UInt8) (h : (of b).code ≠ 0 ∨ (of b).over = true) : 1 ≤ (of b).used ∧ (of b).used ≤ b.length := by
  have hs := of_run b
  rw [hs.used h]
  refine run_used b start ?_
  rw [← hs.code, ← hs.over]; exact h
/-- what was written, byte by byte -/
theorem back_at (ls : List (List UInt8)) (h : ls.flatten.length ≤ 4000) (i : Nat) (hi : i < (text ls).length) :
    (next (fold start ((text ls).take i)) (text ls)[i]).code = 0 ∧ over (fold start ((text ls).take i)) (text ls)[i] = decide (i + 1 = (text ls).length) := by
  obtain ⟨h1, h2⟩ := told_at (text ls) i hi
  rw [of_text ls h] at h1 h2
  rw [h1, h2]
  constructor
  · rw [if_neg (by simp), if_neg]
    rintro ⟨_, e⟩
    have : (text ls).length ≤ i := e
    omega
  · simp
theorem back_body (ls : List (List UInt8)) (h : ls.flatten.length ≤ 4000) : outs start (text ls) = ls.flatten := by
  rw [told_body, of_text ls h]
end Go.Proofs.YtbcmlolaihnalacGreatDoor.Ck

/- Plain laws of requests of a stream, with no program in them: what the document's own answer tells of all bytes, and a reader byte by byte. -/
namespace Go.Proofs.YtbcmlolaihnalacGreatDoor.Rq

/-- a field: its name, its value -/
abbrev Fl := List UInt8 × List UInt8
structure Hd where
  method : List UInt8
  target : List UInt8
  minor : Nat
  fields : List Fl
  length : Int
/-- what bytes bring -/
inductive Ev
  | head (h : Hd)
  | body (l : List UInt8)
  | fin
  | fail (c : Nat)
/-- a text cut at its blanks -/
def cut : List UInt8 → List UInt8 → List (List UInt8)
  | w, [] => [w]
  | w, c :: t => if c = 32 then w :: cut [] t else cut (w ++ [c]) t
/-- a first line: a code, or a head with no fields -/
def first (t : List UInt8) : Nat ⊕ Hd :=
  match cut [] t with
  | [m, g, v] =>
    if Ch.isToken m = false then .inl 6
    else if g.head? ≠ some 47 ∨ 9 ∈ g then .inl 5
    else if v = [72, 84, 84, 80, 47, 49, 46, 49] then .inr ⟨m, g, 1, [], 0⟩
    else if v = [72, 84, 84, 80, 47, 49, 46, 48] then .inr ⟨m, g, 0, [], 0⟩
    else .inl 11
  | _ => .inl 5
/-- the values of fields of a name (in small letters) -/
def vals (fs : List Fl) (name : List UInt8) : List (List UInt8) := (fs.filter fun f => Ch.lower f.1 == name).map (·.2)
/-- Content-Lengths, one behind the other: the first is f -/
def sizes (f : List UInt8) : Int → List (List UInt8) → Nat ⊕ Int
  | n, [] => .inr n
  | _, v :: t => if (Ch.number 10 9 v).2 = false then .inl 7 else if v ≠ f then .inl 12 else sizes f (Ch.number 10 9 v).1 t
def nHost : List UInt8 := [104, 111, 115, 116]
def nSize : List UInt8 := [99, 111, 110, 116, 101, 110, 116, 45, 108, 101, 110, 103, 116, 104]
def nCode : List UInt8 := [116, 114, 97, 110, 115, 102, 101, 114, 45, 101, 110, 99, 111, 100, 105, 110, 103]
def nChunked : List UInt8 := [99, 104, 117, 110, 107, 101, 100]
/-- a body's length, by its head -/
def len (h : Hd) : Nat ⊕ Int :=
  if 1 < (vals h.fields nHost).length ∨ (vals h.fields nHost).length = 0 ∧ h.minor = 1 then .inl 13
  else if vals h.fields nCode ≠ [] then
    (if vals h.fields nSize ≠ [] ∨ h.minor = 0 then .inl 12
     else if (vals h.fields nCode).length ≠ 1 ∨ Ch.lower ((vals h.fields nCode).headD []) ≠ nChunked then .inl 11
     else .inr (-1))
  else match sizes ((vals h.fields nSize).headD []) 0 (vals h.fields nSize) with
    | .inl c => .inl c
    | .inr n => if 4000 < n then .inl 4 else .inr n
/-- a head's fields: a code, no end yet, or all of them and what follows -/
inductive Fs
  | fail (c : Nat)
  | open_
  | ok (fs : List Fl) (rest : List UInt8)
def flds : Nat → List UInt8 → List Fl → Fs
  | 0, _, _ => .open_
  | f + 1, l, fs =>
    if (Ln.of l).code ≠ 0 then .fail (Ln.of l).code
    else if (Ln.of l).ended = false then .open_
    else if (Ln.of l).text = [] then .ok fs (l.drop (Ln.of l).size)
    else if fs.length = 16 then .fail 8
    else if (Fd.of (Ln.of l).text).code ≠ 0 then .fail (Fd.of (Ln.of l).text).code
    else flds f (l.drop (Ln.of l).size) (fs ++ [((Fd.of (Ln.of l).text).name, (Fd.of (Ln.of l).text).value)])
/-- bytes of a body, if there are some -/
def some_ (l : List UInt8) : List Ev := if l = [] then [] else [.body l]
/-- all that bytes bring, and is a request begun that is not over? -/
def go : Nat → List UInt8 → List Ev × Bool
  | 0, _ => ([], false)
  | f + 1, l =>
    if (Ln.of l).code ≠ 0 then ([.fail (Ln.of l).code], false)
    else if (Ln.of l).ended = false then ([], decide (l ≠ []))
    else if (Ln.of l).text = [] then go f (l.drop (Ln.of l).size)
    else match first (Ln.of l).text with
      | .inl c => ([.fail c], false)
      | .inr h =>
        match flds (f + 1) (l.drop (Ln.of l).size) [] with
        | .fail c => ([.fail c], false)
        | .open_ => ([], true)
        | .ok fs r =>
          match len { h with fields := fs } with
          | .inl c => ([.fail c], false)
          | .inr k =>
            if 0 ≤ k then
              (if k.toNat ≤ r.length then
                let q := go f (r.drop k.toNat); (.head { h with fields := fs, length := k } :: some_ (r.take k.toNat) ++ .fin :: q.1, q.2)
               else (.head { h with fields := fs, length := k } :: some_ r, true))
            else
              let t := Ck.of r
              if t.code ≠ 0 then (.head { h with fields := fs, length := k } :: some_ t.body ++ [.fail t.code], false)
              else if t.over = false then (.head { h with fields := fs, length := k } :: some_ t.body, true)
              else let q := go f (r.drop t.used); (.head { h with fields := fs, length := k } :: some_ t.body ++ .fin :: q.1, q.2)
def of (l : List UInt8) : List Ev × Bool := go (l.length + 1) l

/-- what a reader keeps: where it stands (0 ahead of a first line, 1 in a head, 2 in a body of a length, 3 in a body in chunks, 4 behind a code), its line, its head, how many bytes are left, its body in chunks -/
structure St where
  ph : Nat
  ln : Ln.St
  hd : Hd
  left : Nat
  ck : Ck.St
def hd0 : Hd := ⟨[], [], 0, [], 0⟩
def start : St := ⟨0, Ln.start, hd0, 0, Ck.start⟩
def dead (s : St) : St := { s with ph := 4 }
/-- behind a line's end -/
def line (s : St) (t : List UInt8) : St × List Ev :=
  if s.ph = 0 then
    (if t = [] then (s, [])
     else match first t with
      | .inl c => (dead s, [.fail c])
      | .inr h => ({ s with ph := 1, hd := h }, []))
  else if t = [] then
    (match len s.hd with
      | .inl c => (dead s, [.fail c])
      | .inr k =>
        if k = 0 then ({ s with ph := 0 }, [.head { s.hd with length := k }, .fin])
        else if 0 < k then ({ s with ph := 2, left := k.toNat }, [.head { s.hd with length := k }])
        else ({ s with ph := 3, ck := Ck.start }, [.head { s.hd with length := k }]))
  else if s.hd.fields.length = 16 then (dead s, [.fail 8])
  else if (Fd.of t).code ≠ 0 then (dead s, [.fail (Fd.of t).code])
  else ({ s with hd := { s.hd with fields := s.hd.fields ++ [((Fd.of t).name, (Fd.of t).value)] } }, [])
/-- behind a byte -/
def next (s : St) (c : UInt8) : St × List Ev :=
  if s.ph = 4 then (s, [])
  else if s.ph = 2 then (if s.left ≤ 1 then ({ s with ph := 0, left := 0 }, [.body [c], .fin]) else ({ s with left := s.left - 1 }, [.body [c]]))
  else if s.ph = 3 then
    (if (Ck.next s.ck c).code ≠ 0 then (dead s, [.fail (Ck.next s.ck c).code])
     else if (Ck.next s.ck c).ph = 4 then ({ s with ph := 0 }, [.fin])
     else ({ s with ck := Ck.next s.ck c }, some_ (Ck.out s.ck c)))
  else if (Ln.next s.ln c).code ≠ 0 then (dead s, [.fail (Ln.next s.ln c).code])
  else if Ln.ends s.ln c = true then line { s with ln := Ln.start } (Ln.text s.ln c)
  else ({ s with ln := Ln.next s.ln c }, [])
def fold : St → List UInt8 → St
  | s, [] => s
  | s, c :: t => fold (next s c).1 t
def outs : St → List UInt8 → List Ev
  | _, [] => []
  | s, c :: t => (next s c).2 ++ outs (next s c).1 t
def busy (s : St) : Bool := if s.ph = 4 then false else if s.ph = 0 then Ln.begun s.ln else true
/-- bodies that stand one behind the other are one -/
def join : List Ev → List Ev
  | [] => []
  | .body a :: r => match join r with
    | .body b :: q => .body (a ++ b) :: q
    | q => .body a :: q
  | .head h :: r => .head h :: join r
  | .fin :: r => .fin :: join r
  | .fail c :: r => .fail c :: join r
theorem fold_append : ∀ (a b : List UInt8) (s : St), fold s (a ++ b) = fold (fold s a) b
  | [], _, _ => rfl
  | c :: t, b, s => fold_append t b (next s c).1
theorem outs_append : ∀ (a b : List UInt8) (s : St), outs s (a ++ b) = outs s a ++ outs (fold s a) b
  | [], _, _ => rfl
  | c :: t, b, s => by
    show (next s c).2 ++ outs (next s c).1 (t ++ b) = ((next s c).2 ++ outs (next s c).1 t) ++ outs (fold (next s c).1 t) b
    rw [outs_append t b, List.append_assoc]
end Go.Proofs.YtbcmlolaihnalacGreatDoor.Rq

/- Plain laws of requests of a stream: what a reader's bytes bring, joined, a piece at a time. -/
namespace Go.Proofs.YtbcmlolaihnalacGreatDoor.Rq

/-- does it not begin with a body? -/
def Apart : List Ev → Prop
  | .body _ :: _ => False
  | _ => True
theorem join_body {a : List UInt8} {r : List Ev} (h : Apart (join r)) : join (.body a :: r) = .body a :: join r := by
  rw [join]
  cases hj : join r with
  | nil => rfl
  | cons e q => cases e with
    | body b => rw [hj] at h; exact absurd h (fun h => h)
    | head h => rfl
    | fin => rfl
    | fail c => rfl
theorem join_more {a b : List UInt8} {r : List Ev} : join (.body a :: .body b :: r) = join (.body (a ++ b) :: r) := by
  have e : ∀ x : List UInt8, join (.body x :: r) = match join r with | .body y :: q => .body (x ++ y) :: q | q => .body x :: q := fun x => by
    rw [join]
    cases join r with
    | nil => rfl
    | cons e q => cases e <;> rfl
  rw [join, e b, e (a ++ b)]
  cases hj : join r with
  | nil => rfl
  | cons e q => cases e with
    | body y => simp
    | head h => rfl
    | fin => rfl
    | fail c => rfl
/-- bytes, one event each -/
def ones (l : List UInt8) : List Ev := l.map fun c => .body [c]
theorem join_ones_body : ∀ (l : List UInt8) (a : List UInt8) (r : List Ev), join (.body a :: (ones l ++ r)) = join (.body (a ++ l) :: r)
  | [], a, r => by simp [ones]
  | c :: t, a, r => by
    have := join_ones_body t (a ++ [c]) r
    rw [List.append_assoc] at this
    rw [show ones (c :: t) ++ r = .body [c] :: (ones t ++ r) from rfl, join_more, this]
    rfl
/-- joined, they are one -/
theorem join_ones (l : List UInt8) (r : List Ev) (h : Apart (join r)) : join (ones l ++ r) = some_ l ++ join r := by
  cases l with
  | nil => rfl
  | cons c t =>
    rw [show ones (c :: t) ++ r = .body [c] :: (ones t ++ r) from rfl, join_ones_body, join_body h]
    rfl
theorem apart_fin (r : List Ev) : Apart (join (.fin :: r)) := trivial
theorem apart_fail (c : Nat) (r : List Ev) : Apart (join (.fail c :: r)) := trivial
theorem apart_nil : Apart (join []) := trivial
theorem join_head (h : Hd) (r : List Ev) : join (.head h :: r) = .head h :: join r := by rw [join]
theorem join_fin (r : List Ev) : join (.fin :: r) = .fin :: join r := by rw [join]
theorem join_fail (c : Nat) (r : List Ev) : join (.fail c :: r) = .fail c :: join r := by rw [join]

/-- behind a code nothing comes -/
theorem dead_run : ∀ (l : List UInt8) (s : St), s.ph = 4 → outs s l = [] ∧ fold s l = s
  | [], s, _ => ⟨rfl, rfl⟩
  | c :: t, s, h => by
    have e : next s c = (s, []) := by unfold next; rw [if_pos h]
    have ih := dead_run t s h
    constructor
    · show (next s c).2 ++ outs (next s c).1 t = []
      rw [e]; exact ih.1
    · show fold (next s c).1 t = s
      rw [e]; exact ih.2
/-- at a line -/
structure AtLine (s : St) : Prop where
  ph : s.ph = 0 ∨ s.ph = 1
  ln : s.ln = Ln.start
theorem ln_same {s : St} (h : s.ln = Ln.start) : { s with ln := Ln.start } = s := by
  cases s; simp only at h; subst h; rfl
/-- the bytes of a line bring nothing -/
theorem in_line {s : St} (h : AtLine s) (l : List UInt8) : ∀ j, j ≤ l.length → ((Ln.of l).size = 0 ∨ j < (Ln.of l).size) →
    outs s (l.take j) = [] ∧ fold s (l.take j) = { s with ln := Ln.fold Ln.start (l.take j) }
  | 0, _, _ => ⟨rfl, (ln_same h.ln).symm⟩
  | j + 1, hj, hs => by
    have hlt : j < l.length := by omega
    obtain ⟨h1, h2⟩ := in_line h l j (by omega) (by omega)
    obtain ⟨hE, hC⟩ := Ln.fold_quiet l j hlt (by omega)
    have hp := h.ph
    have e : next { s with ln := Ln.fold Ln.start (l.take j) } l[j] = ({ s with ln := Ln.next (Ln.fold Ln.start (l.take j)) l[j] }, []) := by
      unfold next
      rw [if_neg (by show ¬ s.ph = 4; omega), if_neg (by show ¬ s.ph = 2; omega), if_neg (by show ¬ s.ph = 3; omega), if_neg (fun e => e hC), if_neg (by rw [hE]; simp)]
    rw [List.take_succ_eq_append_getElem hlt, outs_append, fold_append, h1, h2, Ln.fold_snoc]
    constructor
    · show [] ++ ((next { s with ln := Ln.fold Ln.start (l.take j) } l[j]).2 ++ []) = []
      rw [e]; rfl
    · show (next { s with ln := Ln.fold Ln.start (l.take j) } l[j]).1 = _
      rw [e]
/-- no line yet -/
theorem line_open {s : St} (h : AtLine s) (l : List UInt8) (ho : (Ln.of l).size = 0) : outs s l = [] ∧ fold s l = { s with ln := Ln.fold Ln.start l } := by
  have := in_line h l l.length (Nat.le_refl _) (Or.inl ho)
  rwa [List.take_length] at this
/-- a line, or a code -/
theorem line_told {s : St} (h : AtLine s) (l : List UInt8) (ho : 0 < (Ln.of l).size) :
    ((Ln.of l).code ≠ 0 → outs s l = [.fail (Ln.of l).code] ∧ (fold s l).ph = 4) ∧
    ((Ln.of l).code = 0 → outs s l = (line s (Ln.of l).text).2 ++ outs (line s (Ln.of l).text).1 (l.drop (Ln.of l).size) ∧ fold s l = fold (line s (Ln.of l).text).1 (l.drop (Ln.of l).size)) := by
  obtain ⟨j, hj⟩ : ∃ j, (Ln.of l).size = j + 1 := ⟨(Ln.of l).size - 1, by omega⟩
  have hle := Ln.of_le l
  have hlt : j < l.length := by omega
  have hp := h.ph
  obtain ⟨h1, h2⟩ := in_line h l j (by omega) (Or.inr (by omega))
  obtain ⟨hE, hC, hT⟩ := Ln.fold_last l j hlt hj.symm
  have hn : next { s with ln := Ln.fold Ln.start (l.take j) } l[j] = if (Ln.of l).code ≠ 0 then (dead { s with ln := Ln.fold Ln.start (l.take j) }, [.fail (Ln.of l).code]) else line s (Ln.of l).text := by
    unfold next
    rw [if_neg (by show ¬ s.ph = 4; omega), if_neg (by show ¬ s.ph = 2; omega), if_neg (by show ¬ s.ph = 3; omega)]
    show (if (Ln.next (Ln.fold Ln.start (l.take j)) l[j]).code ≠ 0 then _ else if Ln.ends (Ln.fold Ln.start (l.take j)) l[j] = true then line { s with ln := Ln.start } (Ln.text (Ln.fold Ln.start (l.take j)) l[j]) else _) = _
    rw [hC, hE, hT, ln_same h.ln]
    by_cases hc : (Ln.of l).code = 0
    · have hcn : ¬ (Ln.of l).code ≠ 0 := fun e => e hc
      simp only [if_neg hcn]
      rcases Ln.of_kind l with hk | hk | hk
      · omega
      · rw [if_pos hk.2]
      · exact absurd hc hk.1
    · simp only [if_pos hc]
  have hsplit : l = l.take j ++ l[j] :: l.drop (j + 1) := by
    rw [← List.drop_eq_getElem_cons hlt, List.take_append_drop]
  have ho2 : outs s l = (next { s with ln := Ln.fold Ln.start (l.take j) } l[j]).2 ++ outs (next { s with ln := Ln.fold Ln.start (l.take j) } l[j]).1 (l.drop (j + 1)) := by
    conv => lhs; rw [hsplit, outs_append, h1, h2]
    rfl
  have hf2 : fold s l = fold (next { s with ln := Ln.fold Ln.start (l.take j) } l[j]).1 (l.drop (j + 1)) := by
    conv => lhs; rw [hsplit, fold_append, h2]
    rfl
  rw [ho2, hf2, hn, hj]
  constructor
  · intro hc
    rw [if_pos hc]
    have := dead_run (l.drop (j + 1)) (dead { s with ln := Ln.fold Ln.start (l.take j) }) rfl
    exact ⟨by rw [this.1]; rfl, by rw [this.2]; rfl⟩
  · intro hc
    rw [if_neg (fun e => e hc)]
    exact ⟨rfl, rfl⟩
/-- in a body of a length -/
theorem sized : ∀ (k : Nat) (l : List UInt8) (s : St), s.ph = 2 → s.left = k + 1 →
    (l.length < k + 1 → outs s l = ones l ∧ (fold s l).ph = 2) ∧
    (k + 1 ≤ l.length → outs s l = ones (l.take (k + 1)) ++ .fin :: outs { s with ph := 0, left := 0 } (l.drop (k + 1)) ∧ fold s l = fold { s with ph := 0, left := 0 } (l.drop (k + 1)))
  | k, [], s, h, _ => ⟨fun _ => ⟨rfl, h⟩, fun e => by simp at e⟩
  | k, c :: t, s, h, hk => by
    cases k with
    | zero =>
      have e : next s c = ({ s with ph := 0, left := 0 }, [.body [c], .fin]) := by
        unfold next; rw [if_neg (by omega), if_pos h, if_pos (by omega)]
      refine ⟨fun hl => by simp at hl, fun _ => ⟨?_, ?_⟩⟩
      · show (next s c).2 ++ outs (next s c).1 t = _
        rw [e]; rfl
      · show fold (next s c).1 t = _
        rw [e]; rfl
    | succ k =>
      have e : next s c = ({ s with left := k + 1 }, [.body [c]]) := by
        unfold next; rw [if_neg (by omega), if_pos h, if_neg (by omega), hk]; rfl
      obtain ⟨i1, i2⟩ := sized k t { s with left := k + 1 } h rfl
      refine ⟨fun hl => ?_, fun hl => ?_⟩
      · obtain ⟨a, b⟩ := i1 (by simp at hl; omega)
        constructor
        · show (next s c).2 ++ outs (next s c).1 t = _
          rw [e]; show [Ev.body [c]] ++ outs { s with left := k + 1 } t = _
          rw [a]; rfl
        · show (fold (next s c).1 t).ph = 2
          rw [e]; exact b
      · obtain ⟨a, b⟩ := i2 (by simp at hl; omega)
        constructor
        · show (next s c).2 ++ outs (next s c).1 t = _
          rw [e]; show [Ev.body [c]] ++ outs { s with left := k + 1 } t = _
          rw [a]; rfl
        · show fold (next s c).1 t = _
          rw [e]; exact b
end Go.Proofs.YtbcmlolaihnalacGreatDoor.Rq
