/- Small texts, one behind the other: PlainCK, PlainCL, PlainCG, PlainCO, PlainT, PlainG. -/
import Derived.Test.YtkafbifogdoneacGreatDoorPk1
/- Plain laws of a body in chunks, with no program in them: what the document's own answer tells of all bytes, and a reader byte by byte. -/
namespace Go.Proofs.YtkafbifogdoneacGreatDoor.Ck

/-- what is told of bytes: what of the body came, how many bytes it took, is it over, a code -/
structure Told where
  body : List UInt8
  used : Nat
  over : Bool
  code : Nat
/-- a chunk's size, out of its line -/
def size (t : List UInt8) : Int × Bool := Ch.number 16 6 (Lib.trimS (t.take (Fd.at_ 59 t)) Ch.ws)
/-- lines behind the last chunk, n of them were there; f: at most so many rounds -/
def trail : Nat → List UInt8 → Nat → Told
  | 0, _, _ => ⟨[], 0, false, 0⟩
  | f + 1, l, n =>
    if (Ln.of l).code ≠ 0 ∨ (Ln.of l).ended = false then ⟨[], (Ln.of l).size, false, (Ln.of l).code⟩
    else if (Ln.of l).text = [] then ⟨[], (Ln.of l).size, true, 0⟩
    else if n = 16 then ⟨[], (Ln.of l).size, false, 8⟩
    else if (Fd.of (Ln.of l).text).code ≠ 0 then ⟨[], (Ln.of l).size, false, (Fd.of (Ln.of l).text).code⟩
    else let r := trail f (l.drop (Ln.of l).size) (n + 1); ⟨r.body, (Ln.of l).size + r.used, r.over, r.code⟩
/-- chunks, n bytes of the body were there -/
def go : Nat → List UInt8 → Nat → Told
  | 0, _, _ => ⟨[], 0, false, 0⟩
  | f + 1, l, n =>
    if (Ln.of l).code ≠ 0 ∨ (Ln.of l).ended = false then ⟨[], (Ln.of l).size, false, (Ln.of l).code⟩
    else if (size (Ln.of l).text).2 = false then ⟨[], (Ln.of l).size, false, 7⟩
    else if 4000 < n + (size (Ln.of l).text).1.toNat then ⟨[], (Ln.of l).size, false, 4⟩
    else if (size (Ln.of l).text).1.toNat = 0 then
      let r := trail (f + 1) (l.drop (Ln.of l).size) 0; ⟨r.body, (Ln.of l).size + r.used, r.over, r.code⟩
    else
      let k := (size (Ln.of l).text).1.toNat
      let d := l.drop (Ln.of l).size
      if d.length < k then ⟨d, (Ln.of l).size + d.length, false, 0⟩
      else
        let e := d.drop k
        if (Ln.of e).code ≠ 0 ∨ (Ln.of e).ended = false then ⟨d.take k, (Ln.of l).size + k + (Ln.of e).size, false, (Ln.of e).code⟩
        else if (Ln.of e).text ≠ [] then ⟨d.take k, (Ln.of l).size + k + (Ln.of e).size, false, 5⟩
        else let r := go f (e.drop (Ln.of e).size) (n + k); ⟨d.take k ++ r.body, (Ln.of l).size + k + (Ln.of e).size + r.used, r.over, r.code⟩
def of (l : List UInt8) : Told := go (l.length + 1) l 0

/-- what a reader keeps: where it stands (0 at a size, 1 in a chunk's bytes, 2 behind them, 3 behind the last chunk, 4 at the end), its line, how many bytes are left of a chunk, how many there are of the body, how many fields came, a code -/
structure St where
  ph : Nat
  ln : Ln.St
  left : Nat
  total : Nat
  count : Nat
  code : Nat
def start : St := ⟨0, Ln.start, 0, 0, 0, 0⟩
/-- behind a line's end -/
def line (s : St) (t : List UInt8) : St :=
  if s.ph = 0 then
    (if (size t).2 = false then { s with code := 7 }
     else if 4000 < s.total + (size t).1.toNat then { s with code := 4 }
     else if (size t).1.toNat = 0 then { s with ph := 3 }
     else { s with ph := 1, left := (size t).1.toNat, total := s.total + (size t).1.toNat })
  else if s.ph = 2 then (if t ≠ [] then { s with code := 5 } else { s with ph := 0 })
  else if t = [] then { s with ph := 4 }
  else if s.count = 16 then { s with code := 8 }
  else if (Fd.of t).code ≠ 0 then { s with code := (Fd.of t).code }
  else { s with count := s.count + 1 }
/-- behind a byte -/
def next (s : St) (c : UInt8) : St :=
  if s.code ≠ 0 then s
  else if s.ph = 4 then { s with code := 18 }
  else if s.ph = 1 then { s with left := s.left - 1, ph := if s.left ≤ 1 then 2 else 1 }
  else if (Ln.next s.ln c).code ≠ 0 then { s with code := (Ln.next s.ln c).code }
  else if Ln.ends s.ln c = true then line { s with ln := Ln.start } (Ln.text s.ln c)
  else { s with ln := Ln.next s.ln c }
/-- what a byte brings of the body -/
def out (s : St) (c : UInt8) : List UInt8 := if s.code = 0 ∧ s.ph = 1 then [c] else []
/-- what is told, byte by byte, to the first code or the end -/
def run : St → List UInt8 → Told
  | _, [] => ⟨[], 0, false, 0⟩
  | s, c :: t =>
    if (next s c).code ≠ 0 then ⟨out s c, 1, false, (next s c).code⟩
    else if (next s c).ph = 4 then ⟨out s c, 1, true, 0⟩
    else ⟨out s c ++ (run (next s c) t).body, 1 + (run (next s c) t).used, (run (next s c) t).over, (run (next s c) t).code⟩
/-- the same, but for how many bytes where nothing was told -/
structure Same (a b : Told) : Prop where
  body : a.body = b.body
  over : a.over = b.over
  code : a.code = b.code
  used : (a.code ≠ 0 ∨ a.over = true) → a.used = b.used
theorem Same.refl (a : Told) : Same a a := ⟨rfl, rfl, rfl, fun _ => rfl⟩
/-- behind some bytes -/
def shift (x : List UInt8) (k : Nat) (r : Told) : Told := ⟨x ++ r.body, k + r.used, r.over, r.code⟩
theorem Same.shift {a b : Told} (h : Same a b) (x : List UInt8) (k : Nat) : Same (Ck.shift x k a) (Ck.shift x k b) :=
  ⟨by simp [Ck.shift, h.body], h.over, h.code, fun e => by show k + a.used = k + b.used; rw [h.used e]⟩
theorem shift_shift (x y : List UInt8) (j k : Nat) (r : Told) : shift x j (shift y k r) = shift (x ++ y) (j + k) r := by
  simp [shift, Nat.add_assoc]
theorem run_quiet {s : St} {c : UInt8} (t : List UInt8) (h1 : (next s c).code = 0) (h2 : (next s c).ph ≠ 4) : run s (c :: t) = shift (out s c) 1 (run (next s c) t) := by
  rw [run, if_neg (by omega), if_neg h2]; rfl
/-- at a line -/
structure AtLine (s : St) : Prop where
  code : s.code = 0
  ph : s.ph = 0 ∨ s.ph = 2 ∨ s.ph = 3
  ln : s.ln = Ln.start
theorem next_in {s : St} {x : Ln.St} (h : AtLine s) (c : UInt8) (hq : Ln.ends x c = false) (hc : (Ln.next x c).code = 0) : next { s with ln := x } c = { s with ln := Ln.next x c } := by
  have h1 := h.code
  have h2 := h.ph
  unfold next
  rw [if_neg (by simpa using h1), if_neg (by show ¬ s.ph = 4; omega), if_neg (by show ¬ s.ph = 1; omega), if_neg (by simpa using hc), if_neg (by simp [hq])]
theorem out_in {s : St} {x : Ln.St} (h : AtLine s) (c : UInt8) : out { s with ln := x } c = [] := by
  have h2 := h.ph
  unfold out
  rw [if_neg (fun e => by have : s.ph = 1 := e.2; omega)]
/-- the bytes of a line bring nothing -/
theorem run_line {s : St} (h : AtLine s) (l : List UInt8) : ∀ j, j ≤ l.length → ((Ln.of l).size = 0 ∨ j < (Ln.of l).size) → run s l = shift [] j (run { s with ln := Ln.fold Ln.start (l.take j) } (l.drop j))
  | 0, _, _ => by
    have e : { s with ln := Ln.fold Ln.start (l.take 0) } = s := by
      have := h.ln
      cases s
      simp only at this
      subst this
      rfl
    rw [e]
    simp [shift]
  | j + 1, hj, hs => by
    have hlt : j < l.length := by omega
    rw [run_line h l j (by omega) (by omega), List.drop_eq_getElem_cons hlt]
    obtain ⟨hE, hC⟩ := Ln.fold_quiet l j hlt (by omega)
    have hn := next_in h l[j] hE hC
    have h1 := h.code
    have h2 := h.ph
    rw [run_quiet _ (by rw [hn]; exact h1) (by rw [hn]; show s.ph ≠ 4; omega), out_in h, hn, shift_shift, List.nil_append, List.take_succ_eq_append_getElem hlt, Ln.fold_snoc]
/-- no line yet -/
theorem run_open {s : St} (h : AtLine s) (l : List UInt8) (ho : (Ln.of l).size = 0) : (run s l).body = [] ∧ (run s l).over = false ∧ (run s l).code = 0 := by
  rw [run_line h l l.length (Nat.le_refl _) (Or.inl ho), List.drop_length]
  exact ⟨rfl, rfl, rfl⟩
/-- a line, or a code -/
theorem run_told {s : St} (h : AtLine s) (l : List UInt8) (ho : 0 < (Ln.of l).size) : run s l =
    if (Ln.of l).code ≠ 0 then ⟨[], (Ln.of l).size, false, (Ln.of l).code⟩
    else if (line s (Ln.of l).text).code ≠ 0 then ⟨[], (Ln.of l).size, false, (line s (Ln.of l).text).code⟩
    else if (line s (Ln.of l).text).ph = 4 then ⟨[], (Ln.of l).size, true, 0⟩
    else shift [] (Ln.of l).size (run (line s (Ln.of l).text) (l.drop (Ln.of l).size)) := by
  obtain ⟨j, hj⟩ : ∃ j, (Ln.of l).size = j + 1 := ⟨(Ln.of l).size - 1, by omega⟩
  have hle := Ln.of_le l
  have hlt : j < l.length := by omega
  have h1 := h.code
  have h2 := h.ph
  obtain ⟨hE, hC, hT⟩ := Ln.fold_last l j hlt hj.symm
  have hsl : { s with ln := Ln.start } = s := by
    have := h.ln
    cases s
    simp only at this
    subst this
    rfl
  have hn : next { s with ln := Ln.fold Ln.start (l.take j) } l[j] = if (Ln.of l).code ≠ 0 then { s with ln := Ln.fold Ln.start (l.take j), code := (Ln.of l).code } else line s (Ln.of l).text := by
    unfold next
    rw [if_neg (by simpa using h1), if_neg (by show ¬ s.ph = 4; omega), if_neg (by show ¬ s.ph = 1; omega)]
    show (if (Ln.next (Ln.fold Ln.start (l.take j)) l[j]).code ≠ 0 then _ else if Ln.ends (Ln.fold Ln.start (l.take j)) l[j] = true then line { s with ln := Ln.start } (Ln.text (Ln.fold Ln.start (l.take j)) l[j]) else _) = _
    rw [hC]
    by_cases hc : (Ln.of l).code = 0
    · have hcn : ¬ (Ln.of l).code ≠ 0 := by omega
      rw [if_neg hcn, if_neg hcn, hE, hT, hsl]
      rcases Ln.of_kind l with hk | hk | hk
      · omega
      · rw [if_pos hk.2]
      · exact absurd hc hk.1
    · rw [if_pos hc, if_pos hc]
  rw [run_line h l j (by omega) (Or.inr (by omega)), List.drop_eq_getElem_cons hlt, run, hn, out_in h, hj]
  by_cases hc : (Ln.of l).code = 0
  · have hcn : ¬ (Ln.of l).code ≠ 0 := by omega
    simp only [if_neg hcn]
    by_cases hlc : (line s (Ln.of l).text).code = 0
    · have hln : ¬ (line s (Ln.of l).text).code ≠ 0 := by omega
      simp only [if_neg hln]
      by_cases h4 : (line s (Ln.of l).text).ph = 4
      · rw [if_pos h4, if_pos h4]; simp [shift]
      · rw [if_neg h4, if_neg h4]; simp [shift, Nat.add_assoc]
    · rw [if_pos hlc, if_pos hlc]; simp [shift]
  · rw [if_pos hc]
    rw [if_pos (show ({ s with ln := Ln.fold Ln.start (l.take j), code := (Ln.of l).code } : St).code ≠ 0 from hc), if_pos hc]
    simp [shift]
/-- in a chunk's bytes -/
theorem run_bytes (s : St) (h0 : s.code = 0) : ∀ (k : Nat) (l : List UInt8), run { s with ph := 1, left := k + 1 } l =
    if l.length < k + 1 then ⟨l, l.length, false, 0⟩ else shift (l.take (k + 1)) (k + 1) (run { s with ph := 2, left := 0 } (l.drop (k + 1)))
  | k, [] => by rw [if_pos (by simp)]; rfl
  | k, c :: t => by
    have ho : out { s with ph := 1, left := k + 1 } c = [c] := by unfold out; rw [if_pos ⟨h0, rfl⟩]
    cases k with
    | zero =>
      have hn : next { s with ph := 1, left := 0 + 1 } c = { s with ph := 2, left := 0 } := by
        unfold next
        rw [if_neg (by simpa using h0), if_neg (by show ¬ 1 = 4; omega), if_pos rfl]
        rfl
      rw [run_quiet t (by rw [hn]; exact h0) (by rw [hn]; show 2 ≠ 4; omega), ho, hn, if_neg (by simp)]
      rfl
    | succ k =>
      have hn : next { s with ph := 1, left := k + 1 + 1 } c = { s with ph := 1, left := k + 1 } := by
        unfold next
        rw [if_neg (by simpa using h0), if_neg (by show ¬ 1 = 4; omega), if_pos rfl]
        show ({ s with ph := if k + 1 + 1 ≤ 1 then 2 else 1, left := k + 1 + 1 - 1 } : St) = _
        rw [if_neg (by omega)]
        rfl
      rw [run_quiet t (by rw [hn]; exact h0) (by rw [hn]; show 1 ≠ 4; omega), ho, hn, run_bytes s h0 k t]
      by_cases hl : t.length < k + 1
      · rw [if_pos hl, if_pos (by simp; omega)]
        simp [shift]; omega
      · rw [if_neg hl, if_neg (by simp; omega), shift_shift]
        have e : k + 1 + 1 = (k + 1) + 1 := rfl
        rw [e, List.take_succ_cons, List.drop_succ_cons, Nat.add_comm 1 (k + 1)]
        rfl
end Go.Proofs.YtkafbifogdoneacGreatDoor.Ck

/- Plain laws of a body in chunks: a reader byte by byte tells what the document's own answer tells of all bytes. -/
namespace Go.Proofs.YtkafbifogdoneacGreatDoor.Ck

theorem open_of {l : List UInt8} (h : (Ln.of l).size = 0) : (Ln.of l).code = 0 ∧ (Ln.of l).ended = false := by
  rw [Ln.of_open l h]; exact ⟨rfl, rfl⟩
theorem kind_of {l : List UInt8} (h : 0 < (Ln.of l).size) (hc : (Ln.of l).code = 0) : (Ln.of l).ended = true := by
  rcases Ln.of_kind l with hk | hk | hk
  · omega
  · exact hk.2
  · exact absurd hc hk.1
theorem same_open {s : St} (h : AtLine s) {l : List UInt8} (ho : (Ln.of l).size = 0) : Same ⟨[], (Ln.of l).size, false, (Ln.of l).code⟩ (run s l) := by
  obtain ⟨h1, h2, h3⟩ := run_open h l ho
  have := (open_of ho).1
  exact ⟨h1.symm, h2.symm, by rw [h3]; exact this, fun e => by rcases e with e | e <;> simp_all⟩
theorem trail_run : ∀ (f : Nat) (l : List UInt8) (s : St), l.length < f → AtLine s → s.ph = 3 → Same (trail f l s.count) (run s l)
  | 0, l, s, hf, _, _ => by omega
  | f + 1, l, s, hf, h, h3 => by
    rw [trail]
    by_cases ho : (Ln.of l).size = 0
    · have := open_of ho
      rw [if_pos (Or.inr this.2)]
      exact same_open h ho
    · have hp : 0 < (Ln.of l).size := by omega
      have hle := Ln.of_le l
      rw [run_told h l hp]
      by_cases hc : (Ln.of l).code = 0
      · have he := kind_of hp hc
        have hn : ¬ ((Ln.of l).code ≠ 0 ∨ (Ln.of l).ended = false) := by rw [he, hc]; simp
        have hcn : ¬ (Ln.of l).code ≠ 0 := by omega
        rw [if_neg hn, if_neg hcn]
        have hL : line s (Ln.of l).text = if (Ln.of l).text = [] then { s with ph := 4 } else if s.count = 16 then { s with code := 8 } else if (Fd.of (Ln.of l).text).code ≠ 0 then { s with code := (Fd.of (Ln.of l).text).code } else { s with count := s.count + 1 } := by
          unfold line; rw [if_neg (by omega), if_neg (by omega)]
        by_cases ht : (Ln.of l).text = []
        · rw [if_pos ht, hL, if_pos ht]
          have e1 : ¬ ({ s with ph := 4 } : St).code ≠ 0 := by have := h.code; simpa using this
          rw [if_neg e1, if_pos rfl]
          exact Same.refl _
        · rw [if_neg ht, hL, if_neg ht]
          by_cases h16 : s.count = 16
          · rw [if_pos h16, if_pos h16, if_pos (show ({ s with code := 8 } : St).code ≠ 0 by show 8 ≠ 0; omega)]
            exact Same.refl _
          · rw [if_neg h16, if_neg h16]
            by_cases hfc : (Fd.of (Ln.of l).text).code = 0
            · have hfn : ¬ (Fd.of (Ln.of l).text).code ≠ 0 := by omega
              rw [if_neg hfn, if_neg hfn]
              have e1 : ¬ ({ s with count := s.count + 1 } : St).code ≠ 0 := by have := h.code; simpa using this
              rw [if_neg e1, if_neg (show ¬ ({ s with count := s.count + 1 } : St).ph = 4 by show ¬ s.ph = 4; omega)]
              have ih := trail_run f (l.drop (Ln.of l).size) { s with count := s.count + 1 } (by rw [List.length_drop]; omega) ⟨h.code, h.ph, h.ln⟩ h3
              have := ih.shift [] (Ln.of l).size
              simpa [shift] using this
            · rw [if_pos hfc, if_pos hfc, if_pos (show ({ s with code := (Fd.of (Ln.of l).text).code } : St).code ≠ 0 from hfc)]
              exact Same.refl _
      · rw [if_pos (Or.inl hc), if_pos hc]
        exact Same.refl _
theorem go_run : ∀ (f : Nat) (l : List UInt8) (s : St), l.length < f → AtLine s → s.ph = 0 → s.count = 0 → Same (go f l s.total) (run s l)
  | 0, l, s, hf, _, _, _ => by omega
  | f + 1, l, s, hf, h, h0, hct => by
    rw [go]
    by_cases ho : (Ln.of l).size = 0
    · have := open_of ho
      rw [if_pos (Or.inr this.2)]
      exact same_open h ho
    · have hp : 0 < (Ln.of l).size := by omega
      have hle := Ln.of_le l
      rw [run_told h l hp]
      by_cases hc : (Ln.of l).code = 0
      · have he := kind_of hp hc
        have hn : ¬ ((Ln.of l).code ≠ 0 ∨ (Ln.of l).ended = false) := by rw [he, hc]; simp
        have hcn : ¬ (Ln.of l).code ≠ 0 := by omega
        rw [if_neg hn, if_neg hcn]
        have hL : line s (Ln.of l).text = if (size (Ln.of l).text).2 = false then { s with code := 7 } else if 4000 < s.total + (size (Ln.of l).text).1.toNat then { s with code := 4 } else if (size (Ln.of l).text).1.toNat = 0 then { s with ph := 3 } else { s with ph := 1, left := (size (Ln.of l).text).1.toNat, total := s.total + (size (Ln.of l).text).1.toNat } := by
          unfold line; rw [if_pos h0]
        rw [hL]
        by_cases h7 : (size (Ln.of l).text).2 = false
        · rw [if_pos h7, if_pos h7, if_pos (show ({ s with code := 7 } : St).code ≠ 0 by show 7 ≠ 0; omega)]
          exact Same.refl _
        · rw [if_neg h7, if_neg h7]
          by_cases h4 : 4000 < s.total + (size (Ln.of l).text).1.toNat
          · rw [if_pos h4, if_pos h4, if_pos (show ({ s with code := 4 } : St).code ≠ 0 by show 4 ≠ 0; omega)]
            exact Same.refl _
          · rw [if_neg h4, if_neg h4]
            by_cases hz : (size (Ln.of l).text).1.toNat = 0
            · rw [if_pos hz, if_pos hz]
              have e1 : ¬ ({ s with ph := 3 } : St).code ≠ 0 := by have := h.code; simpa using this
              rw [if_neg e1, if_neg (show ¬ ({ s with ph := 3 } : St).ph = 4 by show ¬ 3 = 4; omega)]
              have ih := trail_run (f + 1) (l.drop (Ln.of l).size) { s with ph := 3 } (by rw [List.length_drop]; omega) ⟨h.code, Or.inr (Or.inr rfl), h.ln⟩ rfl
              have := ih.shift [] (Ln.of l).size
              have hc0 : ({ s with ph := 3 } : St).count = 0 := hct
              rw [hc0] at this
              simpa [shift, hct] using this
            · rw [if_neg hz, if_neg hz]
              have e1 : ¬ ({ s with ph := 1, left := (size (Ln.of l).text).1.toNat, total := s.total + (size (Ln.of l).text).1.toNat } : St).code ≠ 0 := by have := h.code; simpa using this
              rw [if_neg e1, if_neg (show ¬ ({ s with ph := 1, left := (size (Ln.of l).text).1.toNat, total := s.total + (size (Ln.of l).text).1.toNat } : St).ph = 4 by show ¬ 1 = 4; omega)]
              generalize (size (Ln.of l).text).1.toNat = k at *
              obtain ⟨j, rfl⟩ : ∃ j, k = j + 1 := ⟨k - 1, by omega⟩
              have hdl : (l.drop (Ln.of l).size).length = l.length - (Ln.of l).size := List.length_drop
              generalize hD : l.drop (Ln.of l).size = d at *
              generalize (Ln.of l).size = sz at *
              have hb := run_bytes { s with total := s.total + (j + 1) } h.code j d
              have e2 : ({ ({ s with total := s.total + (j + 1) } : St) with ph := 1, left := j + 1 } : St) = { s with ph := 1, left := j + 1, total := s.total + (j + 1) } := rfl
              rw [e2] at hb
              rw [hb]
              simp only []
              by_cases hdk : d.length < j + 1
              · rw [if_pos hdk, if_pos hdk]
                exact ⟨by simp [shift], rfl, rfl, fun e => by rcases e with e | e <;> simp at e⟩
              · rw [if_neg hdk, if_neg hdk]
                have hA : AtLine { s with ph := 2, left := 0, total := s.total + (j + 1) } := ⟨h.code, Or.inr (Or.inl rfl), h.ln⟩
                have hel : (d.drop (j + 1)).length = d.length - (j + 1) := List.length_drop
                generalize d.drop (j + 1) = e at *
                rw [shift_shift, List.nil_append]
                show Same _ (shift (d.take (j + 1)) (sz + (j + 1)) (run { s with ph := 2, left := 0, total := s.total + (j + 1) } e))
                by_cases ho2 : (Ln.of e).size = 0
                · have ho3 := open_of ho2
                  rw [if_pos (Or.inr ho3.2)]
                  have := (same_open hA ho2).shift (d.take (j + 1)) (sz + (j + 1))
                  simpa [shift, Nat.add_assoc] using this
                · have hp2 : 0 < (Ln.of e).size := by omega
                  have hle2 := Ln.of_le e
                  rw [run_told hA e hp2]
                  by_cases hc2 : (Ln.of e).code = 0
                  · have he2 := kind_of hp2 hc2
                    have hn2 : ¬ ((Ln.of e).code ≠ 0 ∨ (Ln.of e).ended = false) := by rw [he2, hc2]; simp
                    have hcn2 : ¬ (Ln.of e).code ≠ 0 := by omega
                    rw [if_neg hn2, if_neg hcn2]
                    have hL2 : line { s with ph := 2, left := 0, total := s.total + (j + 1) } (Ln.of e).text = if (Ln.of e).text ≠ [] then { s with ph := 2, left := 0, total := s.total + (j + 1), code := 5 } else { s with ph := 0, left := 0, total := s.total + (j + 1) } := by
                      unfold line; rw [if_neg (show ¬ (2 : Nat) = 0 by omega), if_pos rfl]
                    rw [hL2]
                    by_cases ht : (Ln.of e).text = []
                    · have htn : ¬ (Ln.of e).text ≠ [] := fun x => x ht
                      rw [if_neg htn, if_neg htn]
                      have e3 : ¬ ({ s with ph := 0, left := 0, total := s.total + (j + 1) } : St).code ≠ 0 := by have := h.code; simpa using this
                      rw [if_neg e3, if_neg (show ¬ ({ s with ph := 0, left := 0, total := s.total + (j + 1) } : St).ph = 4 by show ¬ 0 = 4; omega)]
                      have ih := go_run f (e.drop (Ln.of e).size) { s with ph := 0, left := 0, total := s.total + (j + 1) } (by rw [List.length_drop]; omega) ⟨h.code, Or.inl rfl, h.ln⟩ rfl hct
                      have := (ih.shift [] (Ln.of e).size).shift (d.take (j + 1)) (sz + (j + 1))
                      simpa [shift, Nat.add_assoc] using this
                    · rw [if_pos ht, if_pos ht, if_pos (show ({ s with ph := 2, left := 0, total := s.total + (j + 1), code := 5 } : St).code ≠ 0 by show 5 ≠ 0; omega)]
                      simpa [shift, Nat.add_assoc] using Same.refl (⟨d.take (j + 1), sz + (j + 1) + (Ln.of e).size, false, 5⟩ : Told)
                  · rw [if_pos (Or.inl hc2), if_pos hc2]
                    simpa [shift, Nat.add_assoc] using Same.refl (⟨d.take (j + 1), sz + (j + 1) + (Ln.of e).size, false, (Ln.of e).code⟩ : Told)
      · rw [if_pos (Or.inl hc), if_pos hc]
        exact Same.refl _
/-- a reader that is new tells what is told of all bytes -/
theorem of_run (l : List UInt8) : Same (of l) (run start l) := go_run (l.length + 1) l start (by omega) ⟨rfl, Or.inl rfl, rfl⟩ rfl rfl

def fold (s : St) (l : List UInt8) : St := l.foldl next s
/-- is the body over by a byte? -/
def over (s : St) (c : UInt8) : Bool := decide (s.code = 0 ∧ s.ph ≠ 4 ∧ (next s c).code = 0 ∧ (next s c).ph = 4)
/-- all that bytes bring -/
def outs : St → List UInt8 → List UInt8
  | _, [] => []
  | s, c :: t => out s c ++ outs (next s c) t
theorem next_dead {s : St} (h : s.code ≠ 0) (c : UInt8) : next s c = s := by unfold next; rw [if_pos h]
theorem fold_dead {s : St} (h : s.code ≠ 0) : ∀ l : List UInt8, fold s l = s
  | [] => rfl
  | c :: t => by
    show fold (next s c) t = s
    rw [next_dead h]; exact fold_dead h t
theorem outs_dead {s : St} (h : s.code ≠ 0) : ∀ l : List UInt8, outs s l = []
  | [] => rfl
  | c :: t => by
    rw [outs, next_dead h, outs_dead h t]
    unfold out; rw [if_neg (fun e => h e.1)]; rfl
theorem next_over {s : St} (h : s.code = 0) (h4 : s.ph = 4) (c : UInt8) : (next s c).code = 18 := by
  unfold next; rw [if_neg (by omega), if_pos h4]
theorem run_used : ∀ (l : List UInt8) (s : St), ((run s l).code ≠ 0 ∨ (run s l).over = true) → 1 ≤ (run s l).used ∧ (run s l).used ≤ l.length
  | [], s, h => by rcases h with h | h <;> simp [run] at h
  | c :: t, s, h => by
    rw [run] at h ⊢
    split at h
    · rename_i h1
      rw [if_pos h1]; exact ⟨Nat.le_refl _, by simp⟩
    · rename_i h1
      rw [if_neg h1]
      split at h
      · rename_i h2
        rw [if_pos h2]; exact ⟨Nat.le_refl _, by simp⟩
      · rename_i h2
        rw [if_neg h2]
        have := run_used t (next s c) h
        simp only [List.length_cons]
        omega
/-- byte by byte -/
theorem run_at : ∀ (l : List UInt8) (s : St), s.code = 0 → s.ph ≠ 4 → ∀ i (hi : i < l.length),
    (next (fold s (l.take i)) l[i]).code = (if (run s l).code ≠ 0 ∧ (run s l).used ≤ i + 1 then (run s l).code else if (run s l).over = true ∧ (run s l).used ≤ i then 18 else 0) ∧
    over (fold s (l.take i)) l[i] = decide ((run s l).over = true ∧ i + 1 = (run s l).used)
  | [], s, _, _, i, hi => by simp at hi
  | c :: t, s, h0, h4, i, hi => by
    rw [run]
    by_cases hc : (next s c).code = 0
    · have hcn : ¬ (next s c).code ≠ 0 := by omega
      rw [if_neg hcn]
      by_cases hp : (next s c).ph = 4
      · rw [if_pos hp]
        cases i with
        | zero =>
          refine ⟨?_, ?_⟩
          · show (next s c).code = _
            rw [hc, if_neg (by simp), if_neg (by simp)]
          · show over s c = _
            unfold over
            simp [h0, h4, hc, hp]
        | succ i =>
          have hi' : i < t.length := by simpa using hi
          have hd : ∀ j, j < t.length → (next (fold (next s c) (t.take j)) (t[j]!)).code = 18 ∧ over (fold (next s c) (t.take j)) (t[j]!) = false := by
            intro j hj
            cases j with
            | zero =>
              refine ⟨next_over hc hp _, ?_⟩
              show over (next s c) _ = false
              unfold over; simp [hp]
            | succ j =>
              cases t with
              | nil => simp at hj
              | cons d u =>
                have hdead : (next (next s c) d).code ≠ 0 := by rw [next_over hc hp]; omega
                have e : fold (next s c) ((d :: u).take (j + 1)) = next (next s c) d := by
                  show fold (next (next s c) d) (u.take j) = _
                  exact fold_dead hdead _
                rw [e, next_dead hdead]
                refine ⟨next_over hc hp _, ?_⟩
                unfold over; simp [hdead]
          have hx := hd i hi'
          have e : t[i]! = t[i] := by simp [hi']
          rw [e] at hx
          refine ⟨?_, ?_⟩
          · show (next (fold (next s c) (t.take i)) t[i]).code = _
            rw [hx.1, if_neg (by simp), if_pos ⟨rfl, by simp⟩]
          · show over (fold (next s c) (t.take i)) t[i] = _
            rw [hx.2]; simp
      · rw [if_neg hp]
        cases i with
        | zero =>
          have hu := run_used t (next s c)
          refine ⟨?_, ?_⟩
          · show (next s c).code = _
            rw [hc, if_neg, if_neg]
            · rintro ⟨_, h2⟩
              have : 1 + (run (next s c) t).used ≤ 0 := h2
              omega
            · rintro ⟨h1, h2⟩
              have h1' : (run (next s c) t).code ≠ 0 := h1
              have h2' : 1 + (run (next s c) t).used ≤ 0 + 1 := h2
              have := hu (Or.inl h1')
              omega
          · show over s c = _
            have e1 : over s c = false := by unfold over; simp [hp]
            rw [e1]
            symm
            rw [decide_eq_false_iff_not]
            rintro ⟨h1, h2⟩
            have h1' : (run (next s c) t).over = true := h1
            have h2' : 0 + 1 = 1 + (run (next s c) t).used := h2
            have := hu (Or.inr h1')
            omega
        | succ i =>
          have hi' : i < t.length := by simpa using hi
          obtain ⟨ih1, ih2⟩ := run_at t (next s c) hc hp i hi'
          refine ⟨?_, ?_⟩
          · show (next (fold (next s c) (t.take i)) t[i]).code = _
            rw [ih1]
            have e1 : (1 + (run (next s c) t).used ≤ i + 1 + 1) = ((run (next s c) t).used ≤ i + 1) := propext ⟨fun h => by omega, fun h => by omega⟩
            have e2 : (1 + (run (next s c) t).used ≤ i + 1) = ((run (next s c) t).used ≤ i) := propext ⟨fun h => by omega, fun h => by omega⟩
            simp only [e1, e2]
          · show over (fold (next s c) (t.take i)) t[i] = _
            rw [ih2]
            have e1 : (i + 1 + 1 = 1 + (run (next s c) t).used) = (i + 1 = (run (next s c) t).used) := propext ⟨fun h => by omega, fun h => by omega⟩
            simp only [e1]
    · rw [if_pos hc]
      cases i with
      | zero =>
        refine ⟨?_, ?_⟩
        · show (next s c).code = _
          rw [if_pos ⟨hc, by simp⟩]
        · show over s c = _
          unfold over; simp [hc]
      | succ i =>
        have hi' : i < t.length := by simpa using hi
        refine ⟨?_, ?_⟩
        · show (next (fold (next s c) (t.take i)) t[i]).code = _
          rw [fold_dead hc, next_dead hc, if_pos ⟨hc, by simp⟩]
        · show over (fold (next s c) (t.take i)) t[i] = _
          rw [fold_dead hc]
          unfold over; simp [hc]
theorem run_outs : ∀ (l : List UInt8) (s : St), outs s l = (run s l).body
  | [], s => rfl
  | c :: t, s => by
    rw [outs, run]
    by_cases hc : (next s c).code = 0
    · have hcn : ¬ (next s c).code ≠ 0 := by omega
      rw [if_neg hcn]
      by_cases hp : (next s c).ph = 4
      · rw [if_pos hp]
        have : outs (next s c) t = [] := by
          cases t with
          | nil => rfl
          | cons d u =>
            have hdead : (next (next s c) d).code ≠ 0 := by rw [next_over hc hp]; omega
            rw [outs, outs_dead hdead]
            unfold out; rw [if_neg (fun e => by have := e.2; omega)]; rfl
        rw [this, List.append_nil]
      · rw [if_neg hp, run_outs t (next s c)]
    · rw [if_pos hc, outs_dead hc, List.append_nil]
end Go.Proofs.YtkafbifogdoneacGreatDoor.Ck

/- Plain laws of a body in chunks: what a reader keeps is so, whatever comes. -/
namespace Go.Proofs.YtkafbifogdoneacGreatDoor.Ck

/-- the code that the program keeps: ErrDone as soon as the body is over -/
def pc (s : St) : Nat := if s.code ≠ 0 then s.code else if s.ph = 4 then 18 else 0
/-- which line comes next: a size, the empty one behind a chunk, a field -/
def nx (s : St) : Nat := if s.ph = 0 then 0 else if s.ph = 3 then 2 else 1
/-- how many bytes of a chunk are to come -/
def lf (s : St) : Nat := if s.ph = 1 then s.left else 0
structure Good (s : St) : Prop where
  ph : s.ph ≤ 4
  ln : Ln.Good s.ln
  lc : s.ln.code = 0
  left : s.ph = 1 → 0 < s.left
  left_le : s.left ≤ 4000
  total : s.total ≤ 4000
  count : s.count ≤ 16
theorem Good.start : Good start := ⟨Nat.zero_le _, Ln.Good.start, rfl, fun h => (by cases h), Nat.zero_le _, Nat.zero_le _, Nat.zero_le _⟩
theorem pc_zero {s : St} : pc s = 0 ↔ s.code = 0 ∧ s.ph ≠ 4 := by
  unfold pc
  by_cases h : s.code = 0
  · rw [if_neg (fun e => e h)]
    by_cases h4 : s.ph = 4
    · rw [if_pos h4]; simp [h4]
    · rw [if_neg h4]; simp [h, h4]
  · rw [if_pos h]; simp [h]
theorem Good.line {s : St} (h : Good s) (t : List UInt8) : Good (line s t) := by
  obtain ⟨h1, h2, h3, h4, h5, h6, h7⟩ := h
  unfold Ck.line
  split
  · split
    · exact ⟨h1, h2, h3, h4, h5, h6, h7⟩
    · split
      · exact ⟨h1, h2, h3, h4, h5, h6, h7⟩
      · split
        · exact ⟨(by show 3 ≤ 4; omega), h2, h3, fun e => (by have : (3 : Nat) = 1 := e; omega), h5, h6, h7⟩
        · rename_i _ a b
          exact ⟨(by show 1 ≤ 4; omega), h2, h3, fun _ => (by show 0 < (size t).1.toNat; omega), (by show (size t).1.toNat ≤ 4000; omega), (by show s.total + (size t).1.toNat ≤ 4000; omega), h7⟩
  · split
    · split
      · exact ⟨h1, h2, h3, h4, h5, h6, h7⟩
      · exact ⟨(by show 0 ≤ 4; omega), h2, h3, fun e => (by have : (0 : Nat) = 1 := e; omega), h5, h6, h7⟩
    · split
      · exact ⟨(by show 4 ≤ 4; omega), h2, h3, fun e => (by have : (4 : Nat) = 1 := e; omega), h5, h6, h7⟩
      · split
        · exact ⟨h1, h2, h3, h4, h5, h6, h7⟩
        · split
          · exact ⟨h1, h2, h3, h4, h5, h6, h7⟩
          · exact ⟨h1, h2, h3, h4, h5, h6, (by show s.count + 1 ≤ 16; omega)⟩
theorem Good.next {s : St} (h : Good s) (c : UInt8) : Good (next s c) := by
  have hh := h
  obtain ⟨h1, h2, h3, h4, h5, h6, h7⟩ := h
  unfold Ck.next
  split
  · exact hh
  · split
    · exact ⟨h1, h2, h3, h4, h5, h6, h7⟩
    · split
      · refine ⟨?_, h2, h3, fun e => ?_, (by show s.left - 1 ≤ 4000; omega), h6, h7⟩
        · show (if s.left ≤ 1 then 2 else 1) ≤ 4
          split <;> omega
        · have e' : (if s.left ≤ 1 then 2 else 1) = 1 := e
          show 0 < s.left - 1
          split at e' <;> omega
      · split
        · exact ⟨h1, h2, h3, h4, h5, h6, h7⟩
        · split
          · exact Good.line (s := { s with ln := Ln.start }) ⟨h1, Ln.Good.start, rfl, h4, h5, h6, h7⟩ _
          · exact ⟨h1, Ln.next_good h2, (by rename_i a _; show (Ln.next s.ln c).code = 0; omega), h4, h5, h6, h7⟩
theorem Good.fold : ∀ (l : List UInt8) {s : St}, Good s → Good (fold s l)
  | [], _, h => h
  | c :: t, s, h => Good.fold t (s := Ck.next s c) (h.next c)
end Go.Proofs.YtkafbifogdoneacGreatDoor.Ck

/- Plain laws of the document's own answer for a body in chunks, step by step. -/
namespace Go.Proofs.YtkafbifogdoneacGreatDoor

theorem Ln.go_text_le (l : List UInt8) : ∀ (t : List UInt8) (i : Nat), (Ln.go l i t).text.length ≤ l.length
  | [], i => Nat.zero_le _
  | c :: t, i => by
    unfold Ln.go
    split
    · split
      · exact Nat.zero_le _
      · split
        · show (l.take i).length ≤ l.length
          rw [List.length_take]; omega
        · exact Nat.zero_le _
    · split
      · exact Nat.zero_le _
      · split
        · exact Nat.zero_le _
        · split
          · exact Nat.zero_le _
          · exact Ln.go_text_le l t (i + 1)
theorem Ln.of_text_le (l : List UInt8) : (Ln.of l).text.length ≤ l.length := Ln.go_text_le l l 0
namespace Ck
section
variable {f : Nat} {l : List UInt8} {n : Nat}
theorem go_bad (h : (Ln.of l).code ≠ 0 ∨ (Ln.of l).ended = false) : go (f + 1) l n = ⟨[], (Ln.of l).size, false, (Ln.of l).code⟩ := by rw [go, if_pos h]
section
variable (h : ¬ ((Ln.of l).code ≠ 0 ∨ (Ln.of l).ended = false))
include h
theorem go_none (h1 : (size (Ln.of l).text).2 = false) : go (f + 1) l n = ⟨[], (Ln.of l).size, false, 7⟩ := by rw [go, if_neg h, if_pos h1]
section
variable (h1 : (size (Ln.of l).text).2 = true)
include h1
theorem go_long (h2 : 4000 < n + (size (Ln.of l).text).1.toNat) : go (f + 1) l n = ⟨[], (Ln.of l).size, false, 4⟩ := by rw [go, if_neg h, if_neg (by rw [h1]; simp), if_pos h2]
section
variable (h2 : ¬ 4000 < n + (size (Ln.of l).text).1.toNat)
include h2
theorem go_zero (h3 : (size (Ln.of l).text).1.toNat = 0) : go (f + 1) l n = shift [] (Ln.of l).size (trail (f + 1) (l.drop (Ln.of l).size) 0) := by
  rw [go, if_neg h, if_neg (by rw [h1]; simp), if_neg h2, if_pos h3]; rfl
section
variable (h3 : ¬ (size (Ln.of l).text).1.toNat = 0)
include h3
theorem go_short (h4 : (l.drop (Ln.of l).size).length < (size (Ln.of l).text).1.toNat) : go (f + 1) l n = ⟨l.drop (Ln.of l).size, (Ln.of l).size + (l.drop (Ln.of l).size).length, false, 0⟩ := by
  rw [go, if_neg h, if_neg (by rw [h1]; simp), if_neg h2, if_neg h3]
  simp only []
  rw [if_pos h4]
section
variable (h4 : ¬ (l.drop (Ln.of l).size).length < (size (Ln.of l).text).1.toNat)
include h4
theorem go_bad2 (h5 : (Ln.of ((l.drop (Ln.of l).size).drop (size (Ln.of l).text).1.toNat)).code ≠ 0 ∨ (Ln.of ((l.drop (Ln.of l).size).drop (size (Ln.of l).text).1.toNat)).ended = false) :
    go (f + 1) l n = ⟨(l.drop (Ln.of l).size).take (size (Ln.of l).text).1.toNat, (Ln.of l).size + (size (Ln.of l).text).1.toNat + (Ln.of ((l.drop (Ln.of l).size).drop (size (Ln.of l).text).1.toNat)).size, false, (Ln.of ((l.drop (Ln.of l).size).drop (size (Ln.of l).text).1.toNat)).code⟩ := by
  rw [go, if_neg h, if_neg (by rw [h1]; simp), if_neg h2, if_neg h3]
  simp only []
  rw [if_neg h4, if_pos h5]
section
variable (h5 : ¬ ((Ln.of ((l.drop (Ln.of l).size).drop (size (Ln.of l).text).1.toNat)).code ≠ 0 ∨ (Ln.of ((l.drop (Ln.of l).size).drop (size (Ln.of l).text).1.toNat)).ended = false))
include h5
theorem go_form (h6 : (Ln.of ((l.drop (Ln.of l).size).drop (size (Ln.of l).text).1.toNat)).text ≠ []) :
    go (f + 1) l n = ⟨(l.drop (Ln.of l).size).take (size (Ln.of l).text).1.toNat, (Ln.of l).size + (size (Ln.of l).text).1.toNat + (Ln.of ((l.drop (Ln.of l).size).drop (size (Ln.of l).text).1.toNat)).size, false, 5⟩ := by
  rw [go, if_neg h, if_neg (by rw [h1]; simp), if_neg h2, if_neg h3]
  simp only []
  rw [if_neg h4, if_neg h5, if_pos h6]
theorem go_next (h6 : (Ln.of ((l.drop (Ln.of l).size).drop (size (Ln.of l).text).1.toNat)).text = []) :
    go (f + 1) l n = shift ((l.drop (Ln.of l).size).take (size (Ln.of l).text).1.toNat) ((Ln.of l).size + (size (Ln.of l).text).1.toNat + (Ln.of ((l.drop (Ln.of l).size).drop (size (Ln.of l).text).1.toNat)).size) (go f (((l.drop (Ln.of l).size).drop (size (Ln.of l).text).1.toNat).drop (Ln.of ((l.drop (Ln.of l).size).drop (size (Ln.of l).text).1.toNat)).size) (n + (size (Ln.of l).text).1.toNat)) := by
  rw [go, if_neg h, if_neg (by rw [h1]; simp), if_neg h2, if_neg h3]
  simp only []
  rw [if_neg h4, if_neg h5, if_neg (fun e => e h6)]
  rfl
end
end
end
end
end
end
theorem trail_bad (h : (Ln.of l).code ≠ 0 ∨ (Ln.of l).ended = false) : trail (f + 1) l n = ⟨[], (Ln.of l).size, false, (Ln.of l).code⟩ := by rw [trail, if_pos h]
section
variable (h : ¬ ((Ln.of l).code ≠ 0 ∨ (Ln.of l).ended = false))
include h
theorem trail_end (h1 : (Ln.of l).text = []) : trail (f + 1) l n = ⟨[], (Ln.of l).size, true, 0⟩ := by rw [trail, if_neg h, if_pos h1]
section
variable (h1 : ¬ (Ln.of l).text = [])
include h1
theorem trail_many (h2 : n = 16) : trail (f + 1) l n = ⟨[], (Ln.of l).size, false, 8⟩ := by rw [trail, if_neg h, if_neg h1, if_pos h2]
section
variable (h2 : ¬ n = 16)
include h2
theorem trail_code (h3 : (Fd.of (Ln.of l).text).code ≠ 0) : trail (f + 1) l n = ⟨[], (Ln.of l).size, false, (Fd.of (Ln.of l).text).code⟩ := by rw [trail, if_neg h, if_neg h1, if_neg h2, if_pos h3]
theorem trail_next (h3 : (Fd.of (Ln.of l).text).code = 0) : trail (f + 1) l n = shift [] (Ln.of l).size (trail f (l.drop (Ln.of l).size) (n + 1)) := by
  rw [trail, if_neg h, if_neg h1, if_neg h2, if_neg (fun e => e h3)]; rfl
end
end
end
end
end Ck
/-- a number of six digits to the base 16 -/
theorem size_nat (t : List UInt8) : 0 ≤ (Ck.size t).1 ∧ (Ck.size t).1 < 68719476736 := by
  unfold Ck.size
  generalize Lib.trimS (t.take (Fd.at_ 59 t)) Ch.ws = l
  unfold Ch.number
  split
  · exact ⟨Int.le_refl _, by decide⟩
  · split
    · rename_i h1 h2
      have hl : ¬ (6 : Int) < l.length := fun e => h1 (Or.inr e)
      exact Ch.numOf_bound 16 (by omega) (by omega) l h2 (by omega)
    · exact ⟨Int.le_refl _, by decide⟩
end Go.Proofs.YtkafbifogdoneacGreatDoor

/- Texts without blanks at their ends, again. -/
namespace Go.Proofs.YtkafbifogdoneacGreatDoor
open Go.RowKit

theorem trimS_le (l : List UInt8) : (Lib.trimS l Ch.ws).length ≤ l.length := by
  unfold Lib.trimS Lib.trimLeftS Lib.trimRightS
  have h1 := (List.dropWhile_suffix (l := (l.reverse.dropWhile (Ch.ws.contains ·)).reverse) (Ch.ws.contains ·)).length_le
  have h2 := (List.dropWhile_suffix (l := l.reverse) (Ch.ws.contains ·)).length_le
  simp only [List.length_reverse] at h1 h2
  omega

theorem drop_again (p : UInt8 → Bool) : ∀ l : List UInt8, (l.dropWhile p).dropWhile p = l.dropWhile p
  | [] => rfl
  | a :: t => by
    rw [List.dropWhile_cons]
    cases hp : p a
    · simp only [Bool.false_eq_true, if_false]
      rw [List.dropWhile_cons, hp]
      rfl
    · simp only [if_true]
      exact drop_again p t

theorem trimS_again (l : List UInt8) : Lib.trimS (Lib.trimS l Ch.ws) Ch.ws = Lib.trimS l Ch.ws := by
  conv => lhs; rw [← Ch.trim_both]
  have h1 : Lib.trimLeftS (Lib.trimS l Ch.ws) Ch.ws = Lib.trimS l Ch.ws := drop_again _ _
  rw [h1, ← Ch.trim_both]
  unfold Lib.trimRightS
  rw [List.reverse_reverse, drop_again]
end Go.Proofs.YtkafbifogdoneacGreatDoor

/- Plain laws of a head's fields: there and back; with no program in them. -/
namespace Go.Proofs.YtkafbifogdoneacGreatDoor.Fd

/-- what stands first, as the library looks for it -/
theorem index_at (l : List UInt8) (c : UInt8) : (Lib.indexByte l c = -1 ∧ at_ c l = l.length) ∨ (Lib.indexByte l c = (at_ c l : Int) ∧ at_ c l < l.length) := by
  by_cases h : Lib.indexByte l c = -1
  · refine Or.inl ⟨h, at_none fun j hj e => ?_⟩
    exact Lib.indexByte_none h j (by rw [List.getElem?_eq_getElem hj, e])
  · have hge := Lib.indexByte_ge l c
    obtain ⟨o, ho⟩ : ∃ o : Nat, Lib.indexByte l c = o := ⟨(Lib.indexByte l c).toNat, by omega⟩
    obtain ⟨h1, h2⟩ := Lib.indexByte_some ho
    obtain ⟨hlt, he⟩ := List.getElem?_eq_some_iff.1 h1
    have : at_ c l = o := at_is hlt he fun j hj e => h2 j hj (by rw [List.getElem?_eq_getElem (by omega), e])
    refine Or.inr ⟨by rw [ho, this], by omega⟩

theorem all_dropWhile (p q : UInt8 → Bool) (h : ∀ b, q b = true → p b = true) : ∀ l : List UInt8, (l.dropWhile q).all p = l.all p
  | [] => rfl
  | a :: t => by
    rw [List.dropWhile_cons]
    cases hq : q a
    · rfl
    · rw [if_pos rfl, all_dropWhile p q h t, List.all_cons, h a hq]; rfl
theorem ws_seen (b : UInt8) (h : Ch.ws.contains b = true) : Ch.visible b.toNat = true := by
  have hb := b.toNat_lt
  have := (show ∀ n : Fin 256, Ch.ws.contains n.val.toUInt8 = true → Ch.visible ((n.val.toUInt8).toNat : Int) = true by decide +kernel) ⟨b.toNat, hb⟩
  have e : b.toNat.toUInt8 = b := by simp
  simp only [e] at this
  exact this h
/-- blanks and tabs are visible -/
theorem seen_trim (l : List UInt8) : Ch.isVisible (Lib.trimS l Ch.ws) = Ch.isVisible l := by
  unfold Ch.isVisible Lib.trimS Lib.trimLeftS Lib.trimRightS
  rw [all_dropWhile _ _ ws_seen, List.all_reverse, all_dropWhile _ _ ws_seen, List.all_reverse]
/-- a field out of a line: its value trimmed first -/
theorem of_trim (l : List UInt8) : of l = if at_ 58 l = l.length then bad 5
    else if Ch.isToken (l.take (at_ 58 l)) = false then bad 6
    else if 40 < at_ 58 l then bad 4
    else if Ch.isVisible (Lib.trimS (l.drop (at_ 58 l + 1)) Ch.ws) = false then bad 3
    else ⟨l.take (at_ 58 l), Lib.trimS (l.drop (at_ 58 l + 1)) Ch.ws, 0⟩ := by
  unfold of; rw [seen_trim]

theorem token_colon (n : List UInt8) (h : Ch.isToken n = true) (j : Nat) (hj : j < n.length) : n[j] ≠ 58 := by
  intro e
  unfold Ch.isToken at h
  rw [Bool.and_eq_true, List.all_eq_true] at h
  have := h.2 _ (List.getElem_mem hj)
  rw [e] at this
  exact absurd this (by decide)
theorem trim_blank (v : List UInt8) : Lib.trimS (32 :: v) Ch.ws = Lib.trimS v Ch.ws := by
  rw [← Ch.trim_both, ← Ch.trim_both]
  rfl
/-- a field that has a text -/
structure Good (n v : List UInt8) : Prop where
  tok : Ch.isToken n = true
  short : n.length ≤ 40
  seen : Ch.isVisible v = true
  trim : Lib.trimS v Ch.ws = v
theorem text_good {n v : List UInt8} (h : Good n v) (hl : n.length + 2 + v.length ≤ 200) : text n v = (n ++ [58, 32] ++ v, 0) := by
  unfold text
  rw [if_neg (by rw [h.tok]; simp), if_neg (by have := h.short; omega), if_neg (by rw [h.seen, h.trim]; simp)]
theorem text_long {n v : List UInt8} (h : Good n v) (hl : ¬ n.length + 2 + v.length ≤ 200) : text n v = ([], 4) := by
  unfold text
  rw [if_neg (by rw [h.tok]; simp), if_pos (by omega)]
theorem text_zero {n v : List UInt8} (h : (text n v).2 = 0) : Good n v ∧ n.length + 2 + v.length ≤ 200 := by
  unfold text at h
  split at h
  · simp at h
  · rename_i h1
    split at h
    · simp at h
    · rename_i h2
      split at h
      · simp at h
      · rename_i h3
        have q : Ch.isVisible v = true := by
          cases e : Ch.isVisible v
          · exact absurd (Or.inl e) h3
          · rfl
        have t : Lib.trimS v Ch.ws = v := by
          by_cases e : Lib.trimS v Ch.ws = v
          · exact e
          · exact absurd (Or.inr e) h3
        exact ⟨⟨by simpa using h1, by omega, q, t⟩, by omega⟩
/-- there -/
theorem of_text {n v : List UInt8} (h : Good n v) : of (n ++ [58, 32] ++ v) = ⟨n, v, 0⟩ := by
  have hlen : (n ++ [58, 32] ++ v).length = n.length + 2 + v.length := by simp; omega
  have hat : at_ 58 (n ++ [58, 32] ++ v) = n.length := by
    refine at_is (by omega) ?_ fun j hj => ?_
    · simp
    · have := token_colon n h.tok j hj
      simpa [List.getElem_append, hj] using this
  have hd : (n ++ [58, 32] ++ v).drop (n.length + 1) = 32 :: v := by
    rw [List.append_assoc, ← List.drop_drop]
    simp
  have ht : (n ++ [58, 32] ++ v).take n.length = n := by rw [List.append_assoc]; simp
  rw [of_trim, hat, hd, ht, trim_blank, h.trim, if_neg (by omega), if_neg (by rw [h.tok]; simp), if_neg (by have := h.short; omega), if_neg (by rw [h.seen]; simp)]
/-- and back -/
theorem of_good {l : List UInt8} (h : (of l).code = 0) : Good (of l).name (of l).value := by
  rw [of_trim] at h ⊢
  split at h
  · simp [bad] at h
  · rename_i h1
    rw [if_neg h1]
    split at h
    · simp [bad] at h
    · rename_i h2
      rw [if_neg h2]
      split at h
      · simp [bad] at h
      · rename_i h3
        rw [if_neg h3]
        split at h
        · simp [bad] at h
        · rename_i h4
          rw [if_neg h4]
          exact ⟨by simpa using h2, by rw [List.length_take]; omega, by simpa using h4, trimS_again _⟩
theorem of_bad {l : List UInt8} (h : (of l).code ≠ 0) : (of l).name = [] ∧ (of l).value = [] := by
  unfold of at h ⊢
  split
  · exact ⟨rfl, rfl⟩
  · rename_i h1
    rw [if_neg h1] at h
    split
    · exact ⟨rfl, rfl⟩
    · rename_i h2
      rw [if_neg h2] at h
      split
      · exact ⟨rfl, rfl⟩
      · rename_i h3
        rw [if_neg h3] at h
        split
        · exact ⟨rfl, rfl⟩
        · rename_i h4
          rw [if_neg h4] at h
          exact absurd rfl h
/-- what is read of a line is no longer than it -/
theorem of_length (l : List UInt8) : (of l).name.length ≤ l.length ∧ (of l).value.length ≤ l.length := by
  unfold of
  split
  · simp [bad]
  · split
    · simp [bad]
    · split
      · simp [bad]
      · split
        · simp [bad]
        · refine ⟨List.length_take_le' .., ?_⟩
          have := trimS_le (l.drop (at_ 58 l + 1))
          rw [List.length_drop] at this
          show (Lib.trimS (l.drop (at_ 58 l + 1)) Ch.ws).length ≤ l.length
          omega
theorem text_length (n v : List UInt8) : (text n v).1.length ≤ n.length + 2 + v.length := by
  unfold text
  split
  · simp
  · split
    · simp
    · split
      · simp
      · simp; omega
end Go.Proofs.YtkafbifogdoneacGreatDoor.Fd
