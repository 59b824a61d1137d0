/- Small texts, one behind the other: PlainHA, PlainHB, PlainHF, PlainHC, PlainHD, PlainHE, PlainHV, PlainHW, PlainHX, PlainHS, PlainKA, PlainKB. -/
import Derived.Test.YtjpenioloeplgadGreatDoorPlainRA
import Derived.Test.YtjpenioloeplgadGreatDoorPk2
import Derived.Test.YtjpenioloeplgadGreatDoorPlainS
import Derived.Test.YtjpenioloeplgadGreatDoorPk4
import Derived.Test.YtjpenioloeplgadGreatDoorPk3
/- Plain laws of forms of a stream, with no program in them: a safe name, what a part's fields say, and a reader byte by byte. -/
namespace Go.Proofs.YtjpenioloeplgadGreatDoor.Fm

def stroke (c : UInt8) : Bool := c == 47 || c == 92
/-- what stands behind the last stroke -/
def tail (l : List UInt8) : List UInt8 := (l.reverse.takeWhile fun c => !stroke c).reverse
def dirty (c : UInt8) : Bool := c == 9 || c == 34 || c == 58 || !Ch.visible c.toNat
def wash (c : UInt8) : UInt8 := if dirty c then 95 else c
def undot (l : List UInt8) : List UInt8 := l.dropWhile (· == 46)
def nFile : List UInt8 := [102, 105, 108, 101]
/-- a name out of bytes, or the one of a file of whose own nothing is left -/
def named (l : List UInt8) : List UInt8 := if l = [] then nFile else l
/-- a safe name -/
def safe (l : List UInt8) : List UInt8 := named ((undot ((tail l).map wash)).take 40)

/-- what the value of a filename* means, behind how it is written -/
def dec : List UInt8 → Option (List UInt8)
  | [] => some []
  | c :: t => if c = 37 then (match t with
      | a :: b :: r => if 0 ≤ Ch.hex a.toNat ∧ 0 ≤ Ch.hex b.toNat then (dec r).map ((16 * Ch.hex a.toNat + Ch.hex b.toNat).toNat.toUInt8 :: ·) else none
      | _ => none)
    else (dec t).map (c :: ·)
def nUtf : List UInt8 := [117, 116, 102, 45, 56, 39, 39]
def coded (l : List UInt8) : Option (List UInt8) := if l.length < 7 ∨ Ch.lower (l.take 7) ≠ nUtf then none else dec (l.drop 7)
/-- the value of a parameter -/
def get (n : List UInt8) (ps : List Pm.Par) : Option (List UInt8) := (ps.find? fun p => p.1 == n).map (·.2)
def nName : List UInt8 := [110, 97, 109, 101]
def nFname : List UInt8 := [102, 105, 108, 101, 110, 97, 109, 101]
def nFstar : List UInt8 := [102, 105, 108, 101, 110, 97, 109, 101, 42]
def nForm : List UInt8 := [102, 111, 114, 109, 45, 100, 97, 116, 97]
def nDisp : List UInt8 := [99, 111, 110, 116, 101, 110, 116, 45, 100, 105, 115, 112, 111, 115, 105, 116, 105, 111, 110]
def nType : List UInt8 := [99, 111, 110, 116, 101, 110, 116, 45, 116, 121, 112, 101]
def file (ps : List Pm.Par) : Option (List UInt8) :=
  match get nFstar ps with
  | some x => (coded x).map safe
  | none => match get nFname ps with
    | some x => some (safe x)
    | none => some []
structure Prt where
  name : List UInt8
  file : List UInt8
  type : List UInt8
/-- the one value, or a code -/
def one : List (List UInt8) → List UInt8 × Nat
  | [] => ([], 10)
  | [v] => (v, 0)
  | _ => ([], 9)
/-- what a part's fields say, by what its two fields are -/
def partBy (d t : List UInt8 × Nat) : Nat ⊕ Prt :=
  if d.2 ≠ 0 then .inl d.2
  else match Pm.media d.1 with
    | .inl c => .inl c
    | .inr x => if x.1 ≠ nForm then .inl 11
      else match get nName x.2 with
        | none => .inl 6
        | some nm => match file x.2 with
          | none => .inl 5
          | some f => if t.2 = 9 then .inl 9 else .inr ⟨nm, f, t.1⟩
def part (fs : List Rq.Fl) : Nat ⊕ Prt := partBy (one (Rq.vals fs nDisp)) (one (Rq.vals fs nType))

/-- events -/
def partD (p : Prt) : EvD := ⟨5, ⟨#[]⟩, ⟨#[]⟩, 0, [], 0, [], ⟨p.name.toArray⟩, ⟨p.file.toArray⟩, ⟨p.type.toArray⟩, [], 0⟩
def overD : EvD := ⟨6, ⟨#[]⟩, ⟨#[]⟩, 0, [], 0, [], ⟨#[]⟩, ⟨#[]⟩, ⟨#[]⟩, [], 0⟩
def finD : EvD := ⟨3, ⟨#[]⟩, ⟨#[]⟩, 0, [], 0, [], ⟨#[]⟩, ⟨#[]⟩, ⟨#[]⟩, [], 0⟩
def failD (c : Nat) : EvD := ⟨4, ⟨#[]⟩, ⟨#[]⟩, 0, [], 0, [], ⟨#[]⟩, ⟨#[]⟩, ⟨#[]⟩, [], (c : Int)⟩
def someD (l : List UInt8) : List EvD := if l = [] then [] else [bodyD l]

/-- what a reader of forms keeps -/
structure St where
  place : Nat
  held : Nat
  ahead : Nat
  ln : Ln.St
  fields : List Rq.Fl
  parts : Nat
  code : Nat
def zero : St := ⟨0, 0, 0, Ln.start, [], 0, 0⟩
def start : St := ⟨0, 2, 2, Ln.start, [], 0, 0⟩
def failed (c : Nat) : St := { zero with code := c }
def done : St := { zero with place := 6 }
def live (s : St) : Prop := s.code = 0 ∧ s.place ≠ 6
instance (s : St) : Decidable (live s) := by unfold live; infer_instance
/-- where the byte behind c stands, behind a mark, or a code -/
def turn (p : Nat) (c : UInt8) : Nat × Nat :=
  if p = 4 then (if c = 10 then (5, 0) else (0, 2))
  else if p = 2 then (if c = 45 then (6, 0) else (0, 5))
  else if p = 1 ∧ c = 45 then (2, 0)
  else if c = 32 ∨ c = 9 then (3, 0)
  else if c = 13 then (4, 0)
  else (0, 5)
def fails (c : Nat) : St × List EvD := (failed c, [failD c])
/-- a line of a part's head -/
def line (s : St) (t : List UInt8) : St × List EvD :=
  if t ≠ [] then
    if s.fields.length = 16 then fails 8
    else if (Fd.of t).code ≠ 0 then fails (Fd.of t).code
    else ({ s with fields := s.fields ++ [((Fd.of t).name, (Fd.of t).value)] }, [])
  else match part s.fields with
    | .inl c => fails c
    | .inr p => if s.parts = 12 then fails 8 else ({ s with fields := [], parts := s.parts + 1, place := 0, held := 2, ahead := 2 }, [partD p])
/-- one byte more -/
def next (m : List UInt8) (s : St) (c : UInt8) : St × List EvD :=
  if ¬ live s then (s, [])
  else if s.place = 0 then
    ({ s with held := Sk.after m s.held c, ahead := s.ahead - (Sk.out m s.held c).length, place := if Sk.found m s.held c then 1 else 0 },
     if 0 < s.parts then someD ((Sk.out m s.held c).drop s.ahead) ++ (if Sk.found m s.held c then [overD] else []) else [])
  else if s.place = 5 then
    if (Ln.next s.ln c).code ≠ 0 then fails (Ln.next s.ln c).code
    else if Ln.ends s.ln c then line { s with ln := Ln.next s.ln c } (Ln.text s.ln c)
    else ({ s with ln := Ln.next s.ln c }, [])
  else if (turn s.place c).2 ≠ 0 then fails (turn s.place c).2
  else if (turn s.place c).1 = 6 then (done, [finD])
  else ({ s with place := (turn s.place c).1 }, [])
def fold (m : List UInt8) : St → List UInt8 → St
  | s, [] => s
  | s, c :: t => fold m (next m s c).1 t
def outs (m : List UInt8) : St → List UInt8 → List EvD
  | _, [] => []
  | s, c :: t => (next m s c).2 ++ outs m (next m s c).1 t
/-- what nothing more comes to -/
def close (s : St) : Nat := if s.code = 0 ∧ s.place ≠ 6 then 14 else s.code
def mark (b : List UInt8) : List UInt8 := 13 :: 10 :: 45 :: 45 :: b
def isMark (b : List UInt8) : Bool := !b.isEmpty && decide (b.length ≤ 70) && Ch.isVisible b && decide (Lib.trimS b Ch.ws = b)
/-- parts out of events -/
def gather : List (Prt × List UInt8) → List EvD → List (Prt × List UInt8)
  | acc, [] => acc
  | acc, e :: r => gather (if e.kind = 5 then acc ++ [(⟨e.pname.data.toList, e.pfile.data.toList, e.ptype.data.toList⟩, e.pbytes)] else if e.kind = 2 then acc.dropLast ++ (acc.getLast?.map fun p => (p.1, e.bytes)).toList else acc) r

theorem fold_append (m : List UInt8) : ∀ (a b : List UInt8) (s : St), fold m s (a ++ b) = fold m (fold m s a) b
  | [], _, _ => rfl
  | _ :: t, b, _ => fold_append m t b _
theorem outs_append (m : List UInt8) : ∀ (a b : List UInt8) (s : St), outs m s (a ++ b) = outs m s a ++ outs m (fold m s a) b
  | [], _, _ => rfl
  | c :: t, b, s => by
    show (next m s c).2 ++ outs m (next m s c).1 (t ++ b) = _
    rw [outs_append m t b]
    show _ = ((next m s c).2 ++ outs m (next m s c).1 t) ++ _
    rw [List.append_assoc]; rfl
theorem fold_snoc (m : List UInt8) (s : St) (l : List UInt8) (c : UInt8) : fold m s (l ++ [c]) = (next m (fold m s l) c).1 := by rw [fold_append]; rfl
theorem outs_snoc (m : List UInt8) (s : St) (l : List UInt8) (c : UInt8) : outs m s (l ++ [c]) = outs m s l ++ (next m (fold m s l) c).2 := by
  rw [outs_append]; show _ ++ (_ ++ []) = _; rw [List.append_nil]
theorem dead_next {m : List UInt8} {s : St} (h : ¬ live s) (c : UInt8) : next m s c = (s, []) := by unfold next; rw [if_pos h]
theorem dead_run {m : List UInt8} : ∀ (l : List UInt8) {s : St}, ¬ live s → outs m s l = [] ∧ fold m s l = s
  | [], _, _ => ⟨rfl, rfl⟩
  | c :: t, s, h => by
    have ih := dead_run (m := m) t h
    show (next m s c).2 ++ outs m (next m s c).1 t = [] ∧ fold m (next m s c).1 t = s
    rw [dead_next h]; exact ih

/-- what was told, and bytes that wait -/
structure Td where
  es : List EvD
  bs : List UInt8
def flush (t : Td) : List EvD := t.es ++ someD t.bs
def tell (t : Td) (e : EvD) : Td := if e.kind = 2 then ⟨t.es, t.bs ++ e.bytes⟩ else ⟨flush t ++ [e], []⟩
def tells (t : Td) (l : List EvD) : Td := l.foldl tell t
def td0 : Td := ⟨[], []⟩
/-- bodies are bytes, and nothing else -/
def Clean (l : List EvD) : Prop := ∀ e ∈ l, e.kind = 2 → e = bodyD e.bytes ∧ e.bytes ≠ []
theorem Clean.append {a b : List EvD} (h : Clean a) (k : Clean b) : Clean (a ++ b) := fun e he => by
  rcases List.mem_append.1 he with he | he
  · exact h e he
  · exact k e he
theorem clean_nil : Clean [] := fun e he => by cases he
theorem clean_someD (l : List UInt8) : Clean (someD l) := by
  unfold someD
  split
  · exact clean_nil
  · rename_i h; intro e he _; rw [List.mem_singleton.1 he]; exact ⟨rfl, h⟩
theorem clean_one {e : EvD} (h : e.kind ≠ 2) : Clean [e] := fun x hx k => by rw [List.mem_singleton.1 hx] at k; exact absurd k h
theorem clean_fails (c : Nat) : Clean (fails c).2 := clean_one (by show (4 : Int) ≠ 2; decide)
theorem clean_line (s : St) (t : List UInt8) : Clean (line s t).2 := by
  unfold line
  split
  · split
    · exact clean_fails _
    · split
      · exact clean_fails _
      · exact clean_nil
  · split
    · exact clean_fails _
    · split
      · exact clean_fails _
      · exact clean_one (by show (5 : Int) ≠ 2; decide)
theorem clean_next (m : List UInt8) (s : St) (c : UInt8) : Clean (next m s c).2 := by
  unfold next
  split
  · exact clean_nil
  · split
    · show Clean (if 0 < s.parts then _ else _)
      split
      · refine Clean.append (clean_someD _) ?_
        split
        · exact clean_one (by decide)
        · exact clean_nil
      · exact clean_nil
    · split
      · split
        · exact clean_fails _
        · split
          · exact clean_line _ _
          · exact clean_nil
      · split
        · exact clean_fails _
        · split
          · exact clean_one (by decide)
          · exact clean_nil
theorem clean_outs (m : List UInt8) : ∀ (l : List UInt8) (s : St), Clean (outs m s l)
  | [], _ => clean_nil
  | c :: t, s => (clean_next m s c).append (clean_outs m t _)
theorem tells_snoc (t : Td) (l : List EvD) (e : EvD) : tells t (l ++ [e]) = tell (tells t l) e := by unfold tells; rw [List.foldl_append]; rfl
theorem tells_append (t : Td) (a b : List EvD) : tells t (a ++ b) = tells (tells t a) b := by unfold tells; rw [List.foldl_append]
/-- what is told in the end is what is joined -/
theorem flush_tells (l : List EvD) (h : Clean l) : flush (tells td0 l) = joinD l ∧ tailD (tells td0 l).es = false := by
  have : ∀ n (l : List EvD), l.length = n → Clean l → flush (tells td0 l) = joinD l ∧ tailD (tells td0 l).es = false := by
    intro n
    induction n with
    | zero => intro l hl _; rw [List.eq_nil_of_length_eq_zero hl]; exact ⟨rfl, rfl⟩
    | succ n ih =>
      intro l hl hc
      rcases List.eq_nil_or_concat l with rfl | ⟨q, x, rfl⟩
      · simp at hl
      · rw [List.concat_eq_append] at hl hc ⊢
        obtain ⟨i1, i2⟩ := ih q (by simpa using hl) (fun e he => hc e (List.mem_append_left _ he))
        rw [tells_snoc, joinD_snoc, ← i1]
        generalize tells td0 q = t at i1 i2
        obtain ⟨es, bs⟩ := t
        simp only at i2
        by_cases hk : x.kind = 2
        · obtain ⟨hx, hx2⟩ := hc x (by simp) hk
          unfold tell
          rw [if_pos hk]
          refine ⟨?_, i2⟩
          unfold flush someD
          simp only
          rw [if_neg (by simp [hx2])]
          by_cases hb : bs = []
          · subst hb
            rw [if_pos rfl, List.append_nil, addD_plain _ _ (fun _ => i2), List.nil_append, ← hx]
          · rw [if_neg hb, addD_merge _ _ _ rfl hk]
            rfl
        · unfold tell
          rw [if_neg hk]
          refine ⟨?_, ?_⟩
          · rw [addD_plain _ _ (fun e => absurd e hk)]
            show (_ ++ [x]) ++ someD [] = _
            simp [someD]
          · show tailD (_ ++ [x]) = false
            rw [tailD_snoc, decide_eq_false hk]
  exact this _ l rfl h
end Go.Proofs.YtjpenioloeplgadGreatDoor.Fm

/- Plain laws of forms of a stream, with no program in them: what a reader keeps is so; how much it tells. -/
namespace Go.Proofs.YtjpenioloeplgadGreatDoor.Fm

/-- what a reader keeps is so -/
structure Good (m : List UInt8) (s : St) : Prop where
  place : s.place ≤ 6
  held : s.held ≤ m.length - 1
  idle : s.place ≠ 0 → s.held = 0
  ln : Ln.Good s.ln
  lc : s.ln.code = 0
  many : s.fields.length ≤ 16
  short : ∀ f ∈ s.fields, f.1.length ≤ 200 ∧ f.2.length ≤ 200
  bare : s.place ≠ 5 → s.ln = Ln.start ∧ s.fields = []
  parts : s.parts ≤ 12
  code : s.code ≤ 20
theorem Good.start {m : List UInt8} (hm : 3 ≤ m.length) : Good m start := ⟨Nat.zero_le _, by show 2 ≤ _; omega, fun h => absurd rfl h, Ln.Good.start, rfl, Nat.zero_le _, (fun f hf => by cases hf), fun _ => ⟨rfl, rfl⟩, Nat.zero_le _, Nat.zero_le _⟩
theorem Good.failed {m : List UInt8} {c : Nat} (hc : c ≤ 20) : Good m (failed c) := ⟨Nat.zero_le _, Nat.zero_le _, fun _ => rfl, Ln.Good.start, rfl, Nat.zero_le _, (fun f hf => by cases hf), fun _ => ⟨rfl, rfl⟩, Nat.zero_le _, hc⟩
theorem Good.done {m : List UInt8} : Good m done := ⟨Nat.le_refl _, Nat.zero_le _, fun _ => rfl, Ln.Good.start, rfl, Nat.zero_le _, (fun f hf => by cases hf), fun _ => ⟨rfl, rfl⟩, Nat.zero_le _, Nat.zero_le _⟩
theorem after_le (m : List UInt8) (h : Nat) (c : UInt8) (hm : 0 < m.length) : Sk.after m h c ≤ m.length - 1 := by
  unfold Sk.after
  split
  · exact Nat.zero_le _
  · rename_i hf
    have h1 := Sk.fit_le m h c
    unfold Sk.found at hf
    rw [decide_eq_true hm, Bool.true_and, decide_eq_true_eq] at hf
    omega
theorem ends_start {s : Ln.St} {c : UInt8} (h : Ln.ends s c = true) : Ln.next s c = Ln.start := by
  unfold Ln.ends at h
  rw [decide_eq_true_eq] at h
  obtain ⟨h1, h2, h3⟩ := h
  unfold Ln.next
  rw [if_neg (by omega), if_neg (by omega), if_pos h3]; rfl
theorem fault_le (s : Ln.St) (c : UInt8) : Ln.fault s c ≤ 4 := by
  unfold Ln.fault
  split
  · split
    · omega
    · split
      · omega
      · split <;> omega
  · omega
theorem next_code {s : Ln.St} (c : UInt8) (h : s.code = 0) : (Ln.next s c).code ≤ 4 := by
  unfold Ln.next
  rw [if_neg (by omega)]
  split
  · exact fault_le s c
  · split
    · exact Nat.zero_le _
    · split
      · show s.code ≤ 4; omega
      · show s.code ≤ 4; omega
theorem of_code (t : List UInt8) : (Fd.of t).code ≤ 20 := by
  unfold Fd.of Fd.bad
  repeat' split
  all_goals (first | exact Nat.zero_le _ | (simp only; omega) | decide)
theorem turn_le (p : Nat) (c : UInt8) : (turn p c).1 ≤ 6 ∧ (turn p c).2 ≤ 20 := by
  unfold turn
  repeat' split
  all_goals decide
/-- the codes of a value with parameters -/
theorem val_le {r : List UInt8} {c : Nat} (h : Pm.val r = .inl c) : c ≤ 20 := by
  unfold Pm.val at h
  repeat' split at h
  all_goals (first | cases h; done | (injection h with h; omega))
theorem par_le {r : List UInt8} {c : Nat} (h : Pm.par r = .inl c) : c ≤ 20 := by
  unfold Pm.par at h
  split at h
  · simp only [] at h
    split at h
    · injection h with h; omega
    · split at h
      · split at h
        · rename_i hv; injection h with h; subst h; exact val_le hv
        · cases h
      · injection h with h; omega
  · injection h with h; omega
theorem pars_le : ∀ (n : Nat) (r : List UInt8) (acc : List Pm.Par) (c : Nat), Pm.pars n r acc = .inl c → c ≤ 20
  | 0, r, acc, c, h => by rw [Pm.pars] at h; cases h
  | n + 1, r, acc, c, h => by
    rw [Pm.pars] at h
    split at h
    · cases h
    · split at h
      · rename_i hp; injection h with h; subst h; exact par_le hp
      · split at h
        · injection h with h; omega
        · split at h
          · injection h with h; omega
          · exact pars_le n _ _ c h
theorem media_le {l : List UInt8} {c : Nat} (h : Pm.media l = .inl c) : c ≤ 20 := by
  unfold Pm.media at h
  split at h
  · injection h with h; omega
  · split at h
    · rename_i hw
      injection h with h; subst h
      unfold Pm.wrd at hw
      simp only [] at hw
      repeat' split at hw
      all_goals (first | (injection hw with hw; omega) | (cases hw; done))
    · unfold Pm.fin at h
      split at h
      · rename_i hp; injection h with h; subst h; exact pars_le _ _ _ _ hp
      · cases h
theorem part_le {fs : List Rq.Fl} {c : Nat} (h : part fs = .inl c) : c ≤ 20 := by
  unfold part partBy at h
  split at h
  · injection h with h; subst h
    unfold one
    split <;> (first | exact Nat.zero_le _ | decide)
  · split at h
    · rename_i hm; injection h with h; subst h; exact media_le hm
    · repeat' split at h
      all_goals (first | (injection h with h; omega) | (cases h; done))
theorem Good.line {m : List UInt8} {s : St} (h : Good m s) (hm : 3 ≤ m.length) (h5 : s.place = 5) (hl : s.ln = Ln.start) {t : List UInt8} (ht : t.length ≤ 200) : Good m (line s t).1 := by
  unfold Fm.line
  split
  · split
    · exact Good.failed (by omega)
    · split
      · exact Good.failed (of_code t)
      · rename_i h16 hf
        have := Fd.of_length t
        refine ⟨h.place, h.held, h.idle, h.ln, h.lc, ?_, fun f hf => ?_, fun e => absurd h5 e, h.parts, h.code⟩
        · have := h.many
          show (s.fields ++ [_]).length ≤ 16
          rw [List.length_append]; simp; omega
        · rcases List.mem_append.1 hf with hf | hf
          · exact h.short f hf
          · rw [List.mem_singleton.1 hf]; exact ⟨by show (Fd.of t).name.length ≤ _; omega, by show (Fd.of t).value.length ≤ _; omega⟩
  · split
    · rename_i hp; exact Good.failed (part_le hp)
    · split
      · exact Good.failed (by omega)
      · rename_i hp
        have := h.parts
        exact ⟨Nat.zero_le _, by show 2 ≤ _; omega, fun e => absurd rfl e, h.ln, h.lc, Nat.zero_le _, (fun f hf => by cases hf), fun _ => ⟨hl, rfl⟩, by show s.parts + 1 ≤ 12; omega, h.code⟩
theorem Good.next {m : List UInt8} {s : St} (h : Good m s) (hm : 3 ≤ m.length) (c : UInt8) : Good m (next m s c).1 := by
  unfold Fm.next
  split
  · exact h
  · split
    · rename_i h0
      refine ⟨?_, after_le m _ c (by omega), fun e => ?_, h.ln, h.lc, h.many, h.short, fun _ => h.bare (by omega), h.parts, h.code⟩
      · show (if _ then 1 else 0) ≤ 6
        split <;> omega
      · show Sk.after m s.held c = 0
        unfold Sk.after
        cases hf : Sk.found m s.held c
        · exfalso; exact e (by show (if Sk.found m s.held c then 1 else 0) = 0; rw [hf]; rfl)
        · rfl
    · rename_i h0
      split
      · rename_i h5
        split
        · exact Good.failed (by have := next_code c h.lc; omega)
        · rename_i hn
          have hg : Good m { s with ln := Ln.next s.ln c } := ⟨h.place, h.held, h.idle, Ln.next_good h.ln, by show (Ln.next s.ln c).code = 0; omega, h.many, h.short, fun e => absurd h5 e, h.parts, h.code⟩
          split
          · rename_i he
            exact hg.line hm h5 (ends_start he) (Rq.text_short h.ln).1
          · exact hg
      · rename_i h5
        split
        · exact Good.failed (turn_le _ _).2
        · split
          · exact Good.done
          · rename_i ht h6
            exact ⟨(turn_le _ _).1, h.held, fun _ => h.idle h0, h.ln, h.lc, h.many, h.short, fun _ => h.bare h5, h.parts, h.code⟩
theorem Good.fold {m : List UInt8} (hm : 3 ≤ m.length) : ∀ (l : List UInt8) {s : St}, Good m s → Good m (fold m s l)
  | [], _, h => h
  | c :: t, _, h => Good.fold hm t (h.next hm c)
/-- a byte brings little: bytes that were held, and itself -/
theorem out_length (m : List UInt8) (h : Nat) (c : UInt8) (hh : h ≤ m.length - 1) : (Sk.out m h c).length + Sk.after m h c ≤ h + 1 := by
  cases hf : Sk.found m h c
  · have h2 := Sk.fit_le' m h c
    unfold Sk.after Sk.out
    rw [hf, if_neg (by simp), List.length_take]
    simp; omega
  · rw [Sk.out_found hf hh]
    unfold Sk.after
    rw [hf]; simp
theorem sum_someD (l : List UInt8) : sumD (someD l) = l.length := by
  unfold someD
  split
  · rename_i h; subst h; rfl
  · simp [sumD, bodyD]
theorem line_sum (s : St) (t : List UInt8) : sumD (line s t).2 = 0 ∧ (line s t).2.length ≤ 1 := by
  unfold line
  split
  · split
    · exact ⟨rfl, Nat.le_refl _⟩
    · split
      · exact ⟨rfl, Nat.le_refl _⟩
      · exact ⟨rfl, Nat.zero_le _⟩
  · split
    · exact ⟨rfl, Nat.le_refl _⟩
    · split
      · exact ⟨rfl, Nat.le_refl _⟩
      · exact ⟨rfl, Nat.le_refl _⟩
theorem line_held {s : St} (t : List UInt8) (hi : s.held = 0) : (line s t).1.held ≤ 2 := by
  unfold line
  split
  · split
    · exact Nat.zero_le _
    · split
      · exact Nat.zero_le _
      · show s.held ≤ 2; omega
  · split
    · exact Nat.zero_le _
    · split
      · exact Nat.zero_le _
      · exact Nat.le_refl _
theorem next_sum {m : List UInt8} {s : St} (h : Good m s) (c : UInt8) : sumD (next m s c).2 + (next m s c).1.held ≤ s.held + 2 ∧ (next m s c).2.length ≤ 2 := by
  unfold next
  split
  · exact ⟨by show 0 + s.held ≤ _; omega, Nat.zero_le _⟩
  · split
    · have h1 := out_length m s.held c h.held
      have e1 : sumD (if Sk.found m s.held c then [overD] else []) = 0 := by split <;> rfl
      have e2 : (if Sk.found m s.held c then [overD] else []).length ≤ 1 := by split <;> simp
      have e3 : (someD ((Sk.out m s.held c).drop s.ahead)).length ≤ 1 := by unfold someD; split <;> simp
      have e4 : ((Sk.out m s.held c).drop s.ahead).length ≤ (Sk.out m s.held c).length := by rw [List.length_drop]; omega
      show sumD (if 0 < s.parts then _ else _) + Sk.after m s.held c ≤ _ ∧ (if 0 < s.parts then _ else _ : List EvD).length ≤ 2
      split
      · rw [sumD_append, e1, sum_someD, List.length_append]; exact ⟨by omega, by omega⟩
      · exact ⟨by show 0 + _ ≤ _; omega, Nat.zero_le _⟩
    · split
      · rename_i h0 h5
        have hi := h.idle h0
        split
        · exact ⟨by show 0 + 0 ≤ _; omega, by show 1 ≤ 2; omega⟩
        · split
          · have h1 := line_sum { s with ln := Ln.next s.ln c } (Ln.text s.ln c)
            have h2 := line_held (s := { s with ln := Ln.next s.ln c }) (Ln.text s.ln c) hi
            exact ⟨by omega, by omega⟩
          · exact ⟨by show 0 + s.held ≤ _; omega, Nat.zero_le _⟩
      · split
        · exact ⟨by show 0 + 0 ≤ _; omega, by show 1 ≤ 2; omega⟩
        · split
          · exact ⟨by show 0 + 0 ≤ _; omega, by show 1 ≤ 2; omega⟩
          · exact ⟨by show 0 + s.held ≤ _; omega, Nat.zero_le _⟩
theorem outs_few {m : List UInt8} (hm : 3 ≤ m.length) : ∀ (l : List UInt8) {s : St}, Good m s → sumD (outs m s l) + (fold m s l).held ≤ s.held + 2 * l.length ∧ (outs m s l).length ≤ 2 * l.length
  | [], _, _ => ⟨by show 0 + _ ≤ _; simp [fold], Nat.zero_le _⟩
  | c :: t, s, h => by
    have h1 := next_sum h c
    have h2 := outs_few hm t (h.next hm c)
    show sumD ((next m s c).2 ++ outs m (next m s c).1 t) + (fold m (next m s c).1 t).held ≤ _ ∧ ((next m s c).2 ++ outs m (next m s c).1 t).length ≤ _
    rw [sumD_append, List.length_append, List.length_cons]
    exact ⟨by omega, by omega⟩
end Go.Proofs.YtjpenioloeplgadGreatDoor.Fm

/- Plain laws of forms of a stream, with no program in them: what pieces bring, one behind the other, and how much. -/
namespace Go.Proofs.YtjpenioloeplgadGreatDoor

theorem addD_two {O : List EvD} {y x : EvD} (hy : y.kind = 2) (hx : x.kind = 2) : addD (addD O y) x = addD O (bodyD (y.bytes ++ x.bytes)) := by
  cases ht : tailD O
  · rw [addD_plain O y (fun _ => ht), addD_merge O y x hy hx, addD_plain O _ (fun _ => ht)]
  · obtain ⟨q, z, rfl, hz⟩ := tailD_split ht
    rw [addD_merge q z y hz hy, addD_merge q _ x rfl hx, addD_merge q z _ hz rfl]
    show q ++ [bodyD ((z.bytes ++ y.bytes) ++ x.bytes)] = q ++ [bodyD (z.bytes ++ (y.bytes ++ x.bytes))]
    rw [List.append_assoc]
theorem foldl_joinD (o : List EvD) : ∀ (n : Nat) (b : List EvD), b.length = n → (joinD b).foldl addD o = b.foldl addD o
  | 0, b, h => by rw [List.eq_nil_of_length_eq_zero h]; rfl
  | n + 1, b, h => by
    rcases List.eq_nil_or_concat b with rfl | ⟨q, x, rfl⟩
    · rfl
    · rw [List.concat_eq_append] at h ⊢
      have ih := foldl_joinD o n q (by simpa using h)
      rw [joinD_snoc, List.foldl_append, ← ih]
      by_cases hm : x.kind = 2 ∧ tailD (joinD q) = true
      · obtain ⟨p, y, hp, hy⟩ := tailD_split hm.2
        rw [hp, addD_merge p y x hy hm.1, List.foldl_append, List.foldl_append]
        exact (addD_two hy hm.1).symm
      · rw [addD_plain _ _ (fun k => by
          cases ht : tailD (joinD q)
          · rfl
          · exact absurd ⟨k, ht⟩ hm), List.foldl_append]
theorem joinD_append (a b : List EvD) : joinD (a ++ b) = b.foldl addD (joinD a) := by unfold joinD; rw [List.foldl_append]
theorem joinD_right (a b : List EvD) : joinD (a ++ joinD b) = joinD (a ++ b) := by rw [joinD_append, joinD_append, foldl_joinD _ _ b rfl]
theorem joinD_joinD (a : List EvD) : joinD (joinD a) = joinD a := joinD_right [] a
theorem joinD_left (a b : List EvD) : joinD (joinD a ++ b) = joinD (a ++ b) := by rw [joinD_append, joinD_append, joinD_joinD]

namespace Fm
/-- what pieces bring, one behind the other -/
def fed (m : List UInt8) : St → List (List UInt8) → List EvD
  | _, [] => []
  | s, p :: ps => joinD (outs m s p) ++ fed m (fold m s p) ps
theorem join_fed (m : List UInt8) : ∀ (ps : List (List UInt8)) (s : St), joinD (fed m s ps) = joinD (outs m s ps.flatten)
  | [], _ => rfl
  | p :: ps, s => by
    show joinD (joinD (outs m s p) ++ fed m (fold m s p) ps) = joinD (outs m s (p ++ ps.flatten))
    rw [joinD_left, outs_append, ← joinD_right, join_fed m ps, joinD_right]
theorem fed_snoc (m : List UInt8) : ∀ (ps : List (List UInt8)) (s : St) (p : List UInt8), fed m s (ps ++ [p]) = fed m s ps ++ joinD (outs m (fold m s ps.flatten) p)
  | [], s, p => by show joinD (outs m s p) ++ [] = _; rw [List.append_nil]; rfl
  | q :: ps, s, p => by
    show joinD (outs m s q) ++ fed m (fold m s q) (ps ++ [p]) = (joinD (outs m s q) ++ fed m (fold m s q) ps) ++ _
    rw [fed_snoc m ps, List.append_assoc, List.flatten_cons, fold_append]
/-- events that are small -/
structure Fine (e : EvD) : Prop where
  method : e.method.size = 0
  target : e.target.size = 0
  fields : e.fields = []
  pbytes : e.pbytes = []
  pname : e.pname.size ≤ 200
  pfile : e.pfile.size ≤ 200
  ptype : e.ptype.size ≤ 200
theorem fine_body (b : List UInt8) : Fine (bodyD b) := ⟨rfl, rfl, rfl, rfl, Nat.zero_le _, Nat.zero_le _, Nat.zero_le _⟩
theorem fine_fail (c : Nat) : Fine (failD c) := ⟨rfl, rfl, rfl, rfl, Nat.zero_le _, Nat.zero_le _, Nat.zero_le _⟩
theorem safe_len (l : List UInt8) : (safe l).length ≤ 40 := by
  unfold safe named
  split
  · decide
  · rw [List.length_take]; omega
theorem get_mem {n : List UInt8} {ps : List Pm.Par} {v : List UInt8} (h : get n ps = some v) : ∃ p ∈ ps, p.2 = v := by
  unfold get at h
  obtain ⟨p, hp, rfl⟩ := Option.map_eq_some_iff.1 h
  exact ⟨p, List.mem_of_find?_eq_some hp, rfl⟩
theorem file_len {ps : List Pm.Par} {f : List UInt8} (h : file ps = some f) : f.length ≤ 40 := by
  unfold file at h
  split at h
  · obtain ⟨x, _, rfl⟩ := Option.map_eq_some_iff.1 h; exact safe_len x
  · split at h
    · injection h with h; subst h; exact safe_len _
    · injection h with h; subst h; exact Nat.zero_le _
theorem one_len {vs : List (List UInt8)} {N : Nat} (h : ∀ v ∈ vs, v.length ≤ N) : (one vs).1.length ≤ N := by
  unfold one
  split
  · exact Nat.zero_le _
  · exact h _ (by simp)
  · exact Nat.zero_le _
theorem vals_len {fs : List Rq.Fl} {n : List UInt8} {N : Nat} (h : ∀ f ∈ fs, f.2.length ≤ N) : ∀ v ∈ Rq.vals fs n, v.length ≤ N := fun v hv => by
  unfold Rq.vals at hv
  obtain ⟨f, hf, rfl⟩ := List.mem_map.1 hv
  exact h f (List.mem_filter.1 hf).1
theorem part_len {fs : List Rq.Fl} {p : Prt} {N : Nat} (h : part fs = .inr p) (hf : ∀ f ∈ fs, f.2.length ≤ N) : p.name.length ≤ N ∧ p.file.length ≤ 40 ∧ p.type.length ≤ N := by
  have hd := one_len (vals_len (n := nDisp) hf)
  have ht := one_len (vals_len (n := nType) hf)
  unfold part partBy at h
  split at h
  · cases h
  · split at h
    · cases h
    · rename_i x hm
      split at h
      · cases h
      · split at h
        · cases h
        · rename_i nm hn
          split at h
          · cases h
          · rename_i f hfl
            split at h
            · cases h
            · injection h with h; subst h
              obtain ⟨q, hq, e⟩ := get_mem hn
              have := (Pm.media_len hm).2 q hq
              exact ⟨by show nm.length ≤ N; rw [← e]; omega, file_len hfl, ht⟩
theorem fine_line {m : List UInt8} {s : St} (h : Good m s) (t : List UInt8) : ∀ e ∈ (line s t).2, Fine e := by
  unfold line
  split
  · split
    · intro e he; rw [List.mem_singleton.1 he]; exact fine_fail 8
    · split
      · intro e he; rw [List.mem_singleton.1 he]; exact fine_fail _
      · intro e he; cases he
  · split
    · intro e he; rw [List.mem_singleton.1 he]; exact fine_fail _
    · split
      · intro e he; rw [List.mem_singleton.1 he]; exact fine_fail 8
      · rename_i p hp _
        have := part_len hp (fun f hf => (h.short f hf).2)
        intro e he
        rw [List.mem_singleton.1 he]
        refine ⟨rfl, rfl, rfl, rfl, ?_, ?_, ?_⟩
        · show p.name.toArray.size ≤ _; rw [List.size_toArray]; omega
        · show p.file.toArray.size ≤ _; rw [List.size_toArray]; omega
        · show p.type.toArray.size ≤ _; rw [List.size_toArray]; omega
theorem fine_next {m : List UInt8} {s : St} (h : Good m s) (c : UInt8) : ∀ e ∈ (next m s c).2, Fine e := by
  unfold next
  split
  · intro e he; cases he
  · split
    · show ∀ e ∈ (if 0 < s.parts then _ else _), Fine e
      split
      · intro e he
        rcases List.mem_append.1 he with he | he
        · unfold someD at he
          split at he
          · cases he
          · rw [List.mem_singleton.1 he]; exact fine_body _
        · split at he
          · rw [List.mem_singleton.1 he]; exact ⟨rfl, rfl, rfl, rfl, Nat.zero_le _, Nat.zero_le _, Nat.zero_le _⟩
          · cases he
      · intro e he; cases he
    · split
      · rename_i h5
        split
        · intro e he; rw [List.mem_singleton.1 he]; exact fine_fail _
        · rename_i hn
          split
          · exact fine_line (m := m) (s := { s with ln := Ln.next s.ln c }) ⟨h.place, h.held, h.idle, Ln.next_good h.ln, by show (Ln.next s.ln c).code = 0; omega, h.many, h.short, fun e => absurd h5 e, h.parts, h.code⟩ _
          · intro e he; cases he
      · split
        · intro e he; rw [List.mem_singleton.1 he]; exact fine_fail _
        · split
          · intro e he; rw [List.mem_singleton.1 he]; exact ⟨rfl, rfl, rfl, rfl, Nat.zero_le _, Nat.zero_le _, Nat.zero_le _⟩
          · intro e he; cases he
theorem fine_outs {m : List UInt8} (hm : 3 ≤ m.length) : ∀ (l : List UInt8) {s : St}, Good m s → ∀ e ∈ outs m s l, Fine e
  | [], _, _ => fun e he => by cases he
  | c :: t, s, h => fun e he => by
    rcases List.mem_append.1 he with he | he
    · exact fine_next h c e he
    · exact fine_outs hm t (h.next hm c) e he
theorem fine_join {l : List EvD} (h : ∀ e ∈ l, Fine e) : ∀ e ∈ joinD l, Fine e := joinD_all fine_body l h
theorem fed_all {m : List UInt8} (hm : 3 ≤ m.length) : ∀ (ps : List (List UInt8)) {s : St}, Good m s → sumD (fed m s ps) + (fold m s ps.flatten).held ≤ s.held + 2 * ps.flatten.length ∧ (fed m s ps).length ≤ 2 * ps.flatten.length ∧ ∀ e ∈ fed m s ps, Fine e
  | [], _, _ => ⟨by show 0 + _ ≤ _; simp [fold], Nat.zero_le _, fun e he => by cases he⟩
  | p :: ps, s, h => by
    obtain ⟨h1, h2⟩ := outs_few hm p h
    obtain ⟨i1, i2, i3⟩ := fed_all hm ps (h.fold hm p)
    show sumD (joinD (outs m s p) ++ fed m (fold m s p) ps) + _ ≤ _ ∧ (joinD (outs m s p) ++ fed m (fold m s p) ps).length ≤ _ ∧ ∀ e ∈ joinD (outs m s p) ++ fed m (fold m s p) ps, Fine e
    have h3 := joinD_length (outs m s p)
    rw [sumD_append, joinD_sum, List.length_append, List.flatten_cons, List.length_append, fold_append]
    refine ⟨by omega, by omega, fun e he => ?_⟩
    rcases List.mem_append.1 he with he | he
    · exact fine_join (fine_outs hm p h) e he
    · exact i3 e he
end Fm
end Go.Proofs.YtjpenioloeplgadGreatDoor

/- Plain laws of forms of a stream, with no program in them: a part's head, byte by byte and line by line. -/
namespace Go.Proofs.YtjpenioloeplgadGreatDoor.Fm

theorem next_head (m : List UInt8) {s : St} (hp : s.place = 5) (hc : s.code = 0) (c : UInt8) : next m s c = if (Ln.next s.ln c).code ≠ 0 then fails (Ln.next s.ln c).code else if Ln.ends s.ln c then line { s with ln := Ln.next s.ln c } (Ln.text s.ln c) else ({ s with ln := Ln.next s.ln c }, []) := by
  unfold next
  rw [if_neg (fun h => h ⟨hc, by omega⟩), if_neg (by omega), if_pos hp]
/-- at a line of a head -/
structure AtHead (s : St) : Prop where
  place : s.place = 5
  code : s.code = 0
  ln : s.ln = Ln.start
theorem ln_same {s : St} (h : s.ln = Ln.start) : { s with ln := Ln.start } = s := by
  cases s; simp only at h; subst h; rfl
theorem failed_dead {c : Nat} (h : c ≠ 0) : ¬ live (failed c) := fun k => h k.1
theorem done_dead : ¬ live done := fun k => k.2 rfl
theorem fails_run (m : List UInt8) {c : Nat} (h : c ≠ 0) (l : List UInt8) : (fails c).2 ++ outs m (fails c).1 l = [failD c] ∧ fold m (fails c).1 l = failed c := by
  obtain ⟨h1, h2⟩ := dead_run (m := m) l (failed_dead h)
  exact ⟨by show [failD c] ++ outs m (failed c) l = _; rw [h1]; rfl, h2⟩
/-- the bytes of a line bring nothing -/
theorem in_line (m : List UInt8) {s : St} (h : AtHead s) (l : List UInt8) : ∀ j, j ≤ l.length → ((Ln.of l).size = 0 ∨ j < (Ln.of l).size) →
    outs m s (l.take j) = [] ∧ fold m s (l.take j) = { s with ln := Ln.fold Ln.start (l.take j) }
  | 0, _, _ => ⟨rfl, (ln_same h.ln).symm⟩
  | j + 1, hj, hs => by
    have hlt : j < l.length := by omega
    obtain ⟨h1, h2⟩ := in_line m h l j (by omega) (by omega)
    obtain ⟨hE, hC⟩ := Ln.fold_quiet l j hlt (by omega)
    have e : next m { s with ln := Ln.fold Ln.start (l.take j) } l[j] = ({ s with ln := Ln.next (Ln.fold Ln.start (l.take j)) l[j] }, []) := by
      rw [next_head m (s := { s with ln := Ln.fold Ln.start (l.take j) }) h.place h.code, if_neg (fun e => e hC), if_neg (by show ¬ Ln.ends (Ln.fold Ln.start (l.take j)) l[j] = true; rw [hE]; simp)]
    rw [List.take_succ_eq_append_getElem hlt, outs_append, fold_append, h1, h2, Ln.fold_snoc]
    constructor
    · show [] ++ ((next m { s with ln := Ln.fold Ln.start (l.take j) } l[j]).2 ++ []) = []
      rw [e]; rfl
    · show (next m { s with ln := Ln.fold Ln.start (l.take j) } l[j]).1 = _
      rw [e]
theorem line_open (m : List UInt8) {s : St} (h : AtHead s) (l : List UInt8) (ho : (Ln.of l).size = 0) : outs m s l = [] ∧ fold m s l = { s with ln := Ln.fold Ln.start l } := by
  have := in_line m h l l.length (Nat.le_refl _) (Or.inl ho)
  rwa [List.take_length] at this
theorem line_told (m : List UInt8) {s : St} (h : AtHead s) (l : List UInt8) (ho : 0 < (Ln.of l).size) :
    ((Ln.of l).code ≠ 0 → outs m s l = [failD (Ln.of l).code] ∧ fold m s l = failed (Ln.of l).code) ∧
    ((Ln.of l).code = 0 → outs m s l = (line s (Ln.of l).text).2 ++ outs m (line s (Ln.of l).text).1 (l.drop (Ln.of l).size) ∧ fold m s l = fold m (line s (Ln.of l).text).1 (l.drop (Ln.of l).size)) := by
  obtain ⟨j, hj⟩ : ∃ j, (Ln.of l).size = j + 1 := ⟨(Ln.of l).size - 1, by omega⟩
  have hle := Ln.of_le l
  have hlt : j < l.length := by omega
  obtain ⟨h1, h2⟩ := in_line m h l j (by omega) (Or.inr (by omega))
  obtain ⟨hE, hC, hT⟩ := Ln.fold_last l j hlt hj.symm
  have hn : next m { s with ln := Ln.fold Ln.start (l.take j) } l[j] = if (Ln.of l).code ≠ 0 then fails (Ln.of l).code else line s (Ln.of l).text := by
    rw [next_head m (s := { s with ln := Ln.fold Ln.start (l.take j) }) h.place h.code]
    show (if (Ln.next (Ln.fold Ln.start (l.take j)) l[j]).code ≠ 0 then fails (Ln.next (Ln.fold Ln.start (l.take j)) l[j]).code else if Ln.ends (Ln.fold Ln.start (l.take j)) l[j] = true then line { s with ln := Ln.next (Ln.fold Ln.start (l.take j)) l[j] } (Ln.text (Ln.fold Ln.start (l.take j)) l[j]) else _) = _
    by_cases hc : (Ln.of l).code = 0
    · have hcn : ¬ (Ln.of l).code ≠ 0 := fun e => e hc
      rw [hC]
      simp only [if_neg hcn]
      rcases Ln.of_kind l with hk | hk | hk
      · omega
      · rw [hE, if_pos hk.2, ends_start (by rw [hE]; exact hk.2), hT, ln_same h.ln]
      · exact absurd hc hk.1
    · rw [hC]; simp only [if_pos hc]
  have hsplit : l = l.take j ++ l[j] :: l.drop (j + 1) := by
    rw [← List.drop_eq_getElem_cons hlt, List.take_append_drop]
  have ho2 : outs m s l = (next m { s with ln := Ln.fold Ln.start (l.take j) } l[j]).2 ++ outs m (next m { s with ln := Ln.fold Ln.start (l.take j) } l[j]).1 (l.drop (j + 1)) := by
    conv => lhs; rw [hsplit, outs_append, h1, h2]
    rfl
  have hf2 : fold m s l = fold m (next m { s with ln := Ln.fold Ln.start (l.take j) } l[j]).1 (l.drop (j + 1)) := by
    conv => lhs; rw [hsplit, fold_append, h2]
    rfl
  rw [ho2, hf2, hn, hj]
  constructor
  · intro hc
    rw [if_pos hc]
    exact fails_run m hc _
  · intro hc
    rw [if_neg (fun e => e hc)]
    exact ⟨rfl, rfl⟩
/-- what a head comes to -/
def FsRun (m : List UInt8) (s : St) (l : List UInt8) : Rq.Fs → Prop
  | .fail c => c ≠ 0 ∧ outs m s l = [failD c] ∧ fold m s l = failed c
  | .open_ => outs m s l = [] ∧ live (fold m s l)
  | .ok fs r => outs m s l = (line { s with fields := fs } []).2 ++ outs m (line { s with fields := fs } []).1 r ∧ fold m s l = fold m (line { s with fields := fs } []).1 r ∧ r.length < l.length
theorem fields_run (m : List UInt8) : ∀ (f : Nat) (l : List UInt8) (s : St), l.length < f → AtHead s → FsRun m s l (Rq.flds f l s.fields)
  | 0, l, s, hf, _ => by omega
  | f + 1, l, s, hf, h => by
    rw [Rq.flds]
    by_cases ho : (Ln.of l).size = 0
    · obtain ⟨e1, e2⟩ := Ck.open_of ho
      rw [if_neg (fun e => e e1), if_pos e2]
      obtain ⟨a, b⟩ := line_open m h l ho
      exact ⟨a, by rw [b]; exact ⟨h.code, by show s.place ≠ 6; rw [h.place]; decide⟩⟩
    · have hp : 0 < (Ln.of l).size := by omega
      have hle := Ln.of_le l
      obtain ⟨t1, t2⟩ := line_told m h l hp
      by_cases hc : (Ln.of l).code = 0
      · rw [if_neg (fun e => e hc), if_neg (by rw [Ck.kind_of hp hc]; simp)]
        obtain ⟨a, b⟩ := t2 hc
        by_cases ht : (Ln.of l).text = []
        · rw [if_pos ht]
          rw [ht] at a b
          exact ⟨a, b, by rw [List.length_drop]; omega⟩
        · rw [if_neg ht]
          have hL : line s (Ln.of l).text = if s.fields.length = 16 then fails 8 else if (Fd.of (Ln.of l).text).code ≠ 0 then fails (Fd.of (Ln.of l).text).code else ({ s with fields := s.fields ++ [((Fd.of (Ln.of l).text).name, (Fd.of (Ln.of l).text).value)] }, []) := by
            unfold line; rw [if_pos ht]
          rw [hL] at a b
          by_cases h16 : s.fields.length = 16
          · rw [if_pos h16] at a b ⊢
            obtain ⟨g1, g2⟩ := fails_run m (c := 8) (by decide) (l.drop (Ln.of l).size)
            exact ⟨by decide, a.trans g1, b.trans g2⟩
          · rw [if_neg h16] at a b ⊢
            by_cases hfc : (Fd.of (Ln.of l).text).code = 0
            · rw [if_neg (fun e => e hfc)] at a b ⊢
              have ih := fields_run m f (l.drop (Ln.of l).size) { s with fields := s.fields ++ [((Fd.of (Ln.of l).text).name, (Fd.of (Ln.of l).text).value)] } (by rw [List.length_drop]; omega) ⟨h.place, h.code, h.ln⟩
              simp only at ih
              rw [List.nil_append] at a
              revert ih
              generalize Rq.flds f (l.drop (Ln.of l).size) (s.fields ++ [((Fd.of (Ln.of l).text).name, (Fd.of (Ln.of l).text).value)]) = F
              intro ih
              cases F with
              | fail c => exact ⟨ih.1, a.trans ih.2.1, b.trans ih.2.2⟩
              | open_ => exact ⟨a.trans ih.1, by rw [b]; exact ih.2⟩
              | ok fs r =>
                obtain ⟨p4, p5, p6⟩ := ih
                exact ⟨a.trans p4, b.trans p5, by rw [List.length_drop] at p6; omega⟩
            · rw [if_pos hfc] at a b ⊢
              obtain ⟨g1, g2⟩ := fails_run m hfc (l.drop (Ln.of l).size)
              exact ⟨hfc, a.trans g1, b.trans g2⟩
      · rw [if_pos hc]
        exact ⟨hc, t1 hc⟩
end Go.Proofs.YtjpenioloeplgadGreatDoor.Fm

/- Plain laws of forms of a stream, with no program in them: a part's bytes to the next mark. -/
namespace Go.Proofs.YtjpenioloeplgadGreatDoor.Fm

/-- where the mark stands first -/
def find (m : List UInt8) : List UInt8 → Option Nat
  | [] => if m = [] then some 0 else none
  | c :: t => if m.isPrefixOf (c :: t) then some 0 else (find m t).map (· + 1)
theorem find_none {m : List UInt8} : ∀ {x : List UInt8}, find m x = none → Sk.Free m x
  | [], h => by
    unfold find at h
    split at h
    · cases h
    · rename_i hm
      rintro ⟨a, b, e⟩
      have := congrArg List.length e
      rw [List.length_append, List.length_append, List.length_nil] at this
      exact hm (List.eq_nil_of_length_eq_zero (by omega))
  | c :: t, h => by
    unfold find at h
    split at h
    · cases h
    · rename_i hp
      rw [Option.map_eq_none_iff] at h
      have ih := find_none h
      rintro ⟨a, b, e⟩
      cases a with
      | nil => exact hp (by rw [List.isPrefixOf_iff_prefix]; exact ⟨b, by simpa using e⟩)
      | cons d a =>
        simp only [List.cons_append, List.cons.injEq] at e
        exact ih ⟨a, b, e.2⟩
theorem find_some {m : List UInt8} (h0 : 0 < m.length) : ∀ {x : List UInt8} {k : Nat}, find m x = some k → m <+: x.drop k ∧ Sk.Free m (x.take (k + m.length - 1))
  | [], k, h => by
    unfold find at h
    split at h
    · rename_i hm; subst hm; simp at h0
    · cases h
  | c :: t, k, h => by
    unfold find at h
    split at h
    · rename_i hp
      injection h with h; subst h
      rw [List.isPrefixOf_iff_prefix] at hp
      refine ⟨hp, fun hi => ?_⟩
      have := hi.length_le
      rw [List.length_take] at this; omega
    · rename_i hp
      rw [List.isPrefixOf_iff_prefix] at hp
      obtain ⟨j, hj, rfl⟩ := Option.map_eq_some_iff.1 h
      obtain ⟨i1, i2⟩ := find_some h0 hj
      refine ⟨i1, ?_⟩
      rw [show j + 1 + m.length - 1 = (j + m.length - 1) + 1 by omega, List.take_succ_cons]
      rintro ⟨a, b, e⟩
      cases a with
      | nil =>
        refine hp ?_
        have h1 : m <+: c :: t.take (j + m.length - 1) := ⟨b, by simpa using e⟩
        refine h1.trans ?_
        rw [← List.take_succ_cons]
        exact List.take_prefix _ _
      | cons d a =>
        simp only [List.cons_append, List.cons.injEq] at e
        exact i2 ⟨a, b, e.2⟩
/-- what was answered of z, ahead of what is held -/
def sent (m z : List UInt8) : List UInt8 := z.take (z.length - Sk.held m z)
theorem sent_held (m z : List UInt8) : sent m z ++ m.take (Sk.held m z) = z := by
  unfold sent
  rw [← Sk.held_drop, List.take_append_drop]
theorem sent_snoc {m z : List UInt8} {c : UInt8} (hf : Sk.found m (Sk.held m z) c = false) : sent m (z ++ [c]) = sent m z ++ Sk.out m (Sk.held m z) c := by
  have h1 := Sk.out_after m z c hf
  have h2 := sent_held m z
  have h3 := sent_held m (z ++ [c])
  rw [Sk.after_held, hf, if_neg (by simp)] at h1
  have : sent m (z ++ [c]) ++ m.take (Sk.held m (z ++ [c])) = (sent m z ++ Sk.out m (Sk.held m z) c) ++ m.take (Sk.held m (z ++ [c])) := by
    rw [h3, List.append_assoc, h1, ← List.append_assoc, h2]
  exact List.append_cancel_right this
theorem sent_mark {m z : List UInt8} {c : UInt8} (hf : Sk.found m (Sk.held m z) c = true) : z ++ [c] = sent m z ++ m := by
  have h2 := sent_held m z
  have h1 := (Sk.out_mark m z c hf).1
  conv => lhs; rw [← h2]
  rw [List.append_assoc, h1]
theorem sent_length (m z : List UInt8) : (sent m z).length = z.length - Sk.held m z := by unfold sent; rw [List.length_take]; omega
/-- among bytes behind z -/
structure AtBytes (m : List UInt8) (s : St) (z : List UInt8) : Prop where
  place : s.place = 0
  code : s.code = 0
  held : s.held = Sk.held m z
  ahead : s.ahead = 2 - (sent m z).length
theorem next_bytes (m : List UInt8) {s : St} (hp : s.place = 0) (hc : s.code = 0) (c : UInt8) : next m s c = ({ s with held := Sk.after m s.held c, ahead := s.ahead - (Sk.out m s.held c).length, place := if Sk.found m s.held c then 1 else 0 },
     if 0 < s.parts then someD ((Sk.out m s.held c).drop s.ahead) ++ (if Sk.found m s.held c then [overD] else []) else []) := by
  unfold next
  rw [if_neg (fun h => h ⟨hc, by omega⟩), if_pos hp]
theorem tells_someD (t : Td) (l : List UInt8) : tells t (someD l) = ⟨t.es, t.bs ++ l⟩ := by
  unfold someD
  split
  · rename_i h; subst h; rw [List.append_nil]; rfl
  · show tell t (bodyD l) = _
    unfold tell; rw [if_pos (show (bodyD l).kind = 2 from rfl)]; rfl
/-- bytes, of which none ends a mark -/
theorem bytes_free (m : List UInt8) (hm : 0 < m.length) : ∀ (l : List UInt8) (s : St) (z : List UInt8) (t : Td), AtBytes m s z → Sk.Free m (z ++ l) →
    AtBytes m (fold m s l) (z ++ l) ∧ (fold m s l).parts = s.parts ∧ (fold m s l).ln = s.ln ∧ (fold m s l).fields = s.fields ∧ tells ⟨t.es, t.bs ++ (if 0 < s.parts then (sent m z).drop 2 else [])⟩ (outs m s l) = ⟨t.es, t.bs ++ (if 0 < s.parts then (sent m (z ++ l)).drop 2 else [])⟩
  | [], s, z, t, h, _ => by rw [List.append_nil]; exact ⟨h, rfl, rfl, rfl, rfl⟩
  | c :: l, s, z, t, h, hF => by
    have hF' : Sk.Free m ((z ++ [c]) ++ l) := by rw [List.append_assoc]; exact hF
    have hf : Sk.found m (Sk.held m z) c = false := by
      cases hf : Sk.found m (Sk.held m z) c
      · rfl
      · have := ((Sk.found_iff m z c).1 hf).2
        exact absurd (this.isInfix.trans ⟨[], l, rfl⟩) hF'
    have hN := next_bytes m h.place h.code c
    rw [h.held, hf] at hN
    have hs := sent_snoc hf
    have hA : AtBytes m (next m s c).1 (z ++ [c]) := by
      rw [hN]
      refine ⟨rfl, h.code, ?_, ?_⟩
      · show Sk.after m (Sk.held m z) c = _
        rw [Sk.after_held, hf]; rfl
      · show s.ahead - _ = _
        rw [hs, List.length_append, h.ahead]; omega
    obtain ⟨i1, i2, i3, i4, i5⟩ := bytes_free m hm l (next m s c).1 (z ++ [c]) t hA hF'
    rw [List.append_assoc] at i1 i5
    have hq : (next m s c).1.parts = s.parts ∧ (next m s c).1.ln = s.ln ∧ (next m s c).1.fields = s.fields := by rw [hN]; exact ⟨rfl, rfl, rfl⟩
    refine ⟨i1, i2.trans hq.1, i3.trans hq.2.1, i4.trans hq.2.2, ?_⟩
    rw [hq.1] at i5
    show tells _ ((next m s c).2 ++ outs m (next m s c).1 l) = _
    rw [tells_append]
    refine Eq.trans ?_ i5
    refine congrArg (fun x => tells x _) ?_
    rw [hN]
    show tells _ (if 0 < s.parts then _ ++ [] else []) = _
    split
    · rw [List.append_nil, tells_someD, hs, List.drop_append, h.ahead, List.append_assoc]
    · rfl
/-- bytes to a mark's end -/
theorem bytes_mark (m : List UInt8) (hm : 0 < m.length) (a : List UInt8) (c : UInt8) (r : List UInt8) (s : St) (z : List UInt8) (t : Td) (h : AtBytes m s z) (hF : Sk.Free m (z ++ a)) (hM : m <:+ z ++ a ++ [c]) :
    ∃ s1 : St, s1.place = 1 ∧ s1.code = 0 ∧ s1.held = 0 ∧ s1.parts = s.parts ∧ s1.ln = s.ln ∧ s1.fields = s.fields ∧ fold m s (a ++ c :: r) = fold m s1 r ∧
      tells ⟨t.es, t.bs ++ (if 0 < s.parts then (sent m z).drop 2 else [])⟩ (outs m s (a ++ c :: r)) = tells (if 0 < s.parts then ⟨flush ⟨t.es, t.bs ++ (sent m (z ++ a)).drop 2⟩ ++ [overD], []⟩ else ⟨t.es, t.bs⟩) (outs m s1 r) ∧ z ++ a ++ [c] = sent m (z ++ a) ++ m := by
  obtain ⟨i1, i2, i3, i4, i5⟩ := bytes_free m hm a s z t h hF
  have hf : Sk.found m (Sk.held m (z ++ a)) c = true := (Sk.found_iff m (z ++ a) c).2 ⟨hm, hM⟩
  have hN := next_bytes m i1.place i1.code c
  have ho := Sk.out_found hf (Sk.held_le m (z ++ a))
  rw [i1.held, hf, ho, i2] at hN
  have haf : Sk.after m (Sk.held m (z ++ a)) c = 0 := by unfold Sk.after; rw [hf]; rfl
  refine ⟨(next m (fold m s a) c).1, ?_, ?_, ?_, ?_, ?_, ?_, ?_, ?_, sent_mark hf⟩
  · rw [hN]
    rfl
  · rw [hN]; exact i1.code
  · rw [hN]; exact haf
  · rw [hN]
  · rw [hN]; exact i3
  · rw [hN]; exact i4
  · rw [fold_append]; rfl
  · rw [outs_append, tells_append, i5]
    show tells _ ((next m (fold m s a) c).2 ++ outs m (next m (fold m s a) c).1 r) = _
    rw [tells_append]
    refine congrArg (fun x => tells x _) ?_
    rw [hN]
    show tells _ (if 0 < s.parts then someD (List.drop _ []) ++ [overD] else []) = _
    by_cases hp : 0 < s.parts
    · rw [if_pos hp, if_pos hp, if_pos hp, List.drop_nil]
      show tell _ overD = _
      unfold tell
      rw [if_neg (by decide)]
    · rw [if_neg hp, if_neg hp, if_neg hp, List.append_nil]; rfl
end Go.Proofs.YtjpenioloeplgadGreatDoor.Fm

/- Plain laws of forms of a stream, with no program in them: what the document's own answer tells of all bytes is what a reader tells byte by byte. -/
namespace Go.Proofs.YtjpenioloeplgadGreatDoor.Fm

/-- what stands behind a mark -/
def ofM (m : List UInt8) : Nat → Nat → List UInt8 → List EvD × Nat
  | 0, _, _ => ([], 14)
  | f + 1, parts, r =>
    if r = [] then ([], 14)
    else if r.head? = some 45 then (if r.length = 1 then ([], 14) else if r[1]? ≠ some 45 then ([failD 5], 5) else ([finD], 0))
    else if r.dropWhile Pm.blank = [] then ([], 14)
    else if (r.dropWhile Pm.blank).head? ≠ some 13 then ([failD 5], 5)
    else if (r.dropWhile Pm.blank).length = 1 then ([], 14)
    else if (r.dropWhile Pm.blank)[1]? ≠ some 10 then ([failD 2], 2)
    else match Rq.flds (((r.dropWhile Pm.blank).drop 2).length + 1) ((r.dropWhile Pm.blank).drop 2) [] with
      | .fail c => ([failD c], c)
      | .open_ => ([], 14)
      | .ok fs q => match part fs with
        | .inl c => ([failD c], c)
        | .inr p => if parts = 12 then ([failD 8], 8)
          else match find m (13 :: 10 :: q) with
            | none => (partD p :: someD ((sent m (13 :: 10 :: q)).drop 2), 14)
            | some k =>
              let u := ofM m f (parts + 1) ((13 :: 10 :: q).drop (k + m.length))
              (partD p :: someD (((13 :: 10 :: q).take k).drop 2) ++ overD :: u.1, u.2)
/-- a form -/
def of (m b : List UInt8) : List EvD × Nat :=
  match find m (13 :: 10 :: b) with
  | none => ([], 14)
  | some k => ofM m (b.length + 1) 0 ((13 :: 10 :: b).drop (k + m.length))

/-- behind a mark, ahead of a head -/
structure AtMark (s : St) (parts : Nat) : Prop where
  code : s.code = 0
  held : s.held = 0
  ln : s.ln = Ln.start
  fields : s.fields = []
  parts : s.parts = parts
/-- what is told, and the end -/
def Tells (m : List UInt8) (s : St) (r : List UInt8) (q : List EvD × Nat) : Prop := ∀ es : List EvD, flush (tells ⟨es, []⟩ (outs m s r)) = es ++ q.1 ∧ close (fold m s r) = q.2
theorem close_live {s : St} (h : live s) : close s = 14 := by unfold close; exact if_pos h
theorem close_failed {c : Nat} (h : c ≠ 0) : close (failed c) = c := by unfold close; exact if_neg (failed_dead h)
theorem close_done : close done = 0 := by unfold close; exact if_neg done_dead
theorem flush_one (es : List EvD) (e : EvD) (h : e.kind ≠ 2) : flush (tells ⟨es, []⟩ [e]) = es ++ [e] := by
  show flush (tell ⟨es, []⟩ e) = _
  unfold tell
  rw [if_neg h]
  unfold flush someD
  simp
theorem flush_none (es : List EvD) : flush (tells ⟨es, []⟩ []) = es ++ [] := by
  show es ++ someD [] = _
  rfl
theorem Tells.open_ {m : List UInt8} {s : St} {r : List UInt8} (h : outs m s r = []) (hl : live (fold m s r)) : Tells m s r ([], 14) := fun es => ⟨by rw [h]; exact flush_none es, close_live hl⟩
theorem Tells.fail {m : List UInt8} {s : St} {r : List UInt8} {c : Nat} (hc : c ≠ 0) (h : outs m s r = [failD c]) (hl : fold m s r = failed c) : Tells m s r ([failD c], c) := fun es => ⟨by rw [h]; exact flush_one es _ (by show (4 : Int) ≠ 2; decide), by rw [hl]; exact close_failed hc⟩
/-- one byte behind a mark -/
theorem next_mark (m : List UInt8) {s : St} (hp : s.place = 1 ∨ s.place = 2 ∨ s.place = 3 ∨ s.place = 4) (hc : s.code = 0) (c : UInt8) : next m s c = if (turn s.place c).2 ≠ 0 then fails (turn s.place c).2 else if (turn s.place c).1 = 6 then (done, [finD]) else ({ s with place := (turn s.place c).1 }, []) := by
  unfold next
  rw [if_neg (fun h => h ⟨hc, by omega⟩), if_neg (by omega), if_neg (by omega)]
theorem mark_fail (m : List UInt8) {s : St} (hp : s.place = 1 ∨ s.place = 2 ∨ s.place = 3 ∨ s.place = 4) (hc : s.code = 0) (c : UInt8) (t : List UInt8) {k : Nat} (hk : (turn s.place c).2 = k) (h0 : k ≠ 0) : Tells m s (c :: t) ([failD k], k) := by
  have hN := next_mark m hp hc c
  rw [hk, if_pos h0] at hN
  obtain ⟨h1, h2⟩ := fails_run m h0 t
  refine Tells.fail h0 ?_ ?_
  · show (next m s c).2 ++ outs m (next m s c).1 t = _
    rw [hN]; exact h1
  · show fold m (next m s c).1 t = _
    rw [hN]; exact h2
theorem mark_on (m : List UInt8) {s : St} (hp : s.place = 1 ∨ s.place = 2 ∨ s.place = 3 ∨ s.place = 4) (hc : s.code = 0) (c : UInt8) (t : List UInt8) {p : Nat} (hk : turn s.place c = (p, 0)) (h6 : p ≠ 6) : outs m s (c :: t) = outs m { s with place := p } t ∧ fold m s (c :: t) = fold m { s with place := p } t := by
  have hN := next_mark m hp hc c
  rw [hk, if_neg (fun h => h rfl), if_neg h6] at hN
  constructor
  · show (next m s c).2 ++ outs m (next m s c).1 t = _
    rw [hN]; rfl
  · show fold m (next m s c).1 t = _
    rw [hN]
theorem turn_blank {p : Nat} (hp : p = 1 ∨ p = 3) {c : UInt8} (h : Pm.blank c = true) : turn p c = (3, 0) := by
  unfold Pm.blank at h
  rw [Bool.or_eq_true, beq_iff_eq, beq_iff_eq] at h
  unfold turn
  rw [if_neg (by omega), if_neg (by omega), if_neg (fun e => by rcases h with h | h <;> (rw [h] at e; exact absurd e.2 (by decide))), if_pos h]
theorem turn_other {p : Nat} (hp : p = 1 ∨ p = 3) {c : UInt8} (h : Pm.blank c = false) (h45 : p = 1 → c ≠ 45) : turn p c = if c = 13 then (4, 0) else (0, 5) := by
  unfold Pm.blank at h
  rw [Bool.or_eq_false_iff, beq_eq_false_iff_ne, beq_eq_false_iff_ne] at h
  unfold turn
  rw [if_neg (by omega), if_neg (by omega), if_neg (fun e => h45 e.1 e.2), if_neg (fun e => by rcases e with e | e; exact h.1 e; exact h.2 e)]
theorem turn_code (p : Nat) (c : UInt8) : (turn p c).1 = 6 → (turn p c).2 = 0 := by
  unfold turn
  repeat' split
  all_goals (intro h; first | rfl | (cases h; done))
/-- blanks and tabs -/
theorem blanks_run (m : List UInt8) : ∀ (r : List UInt8) (s : St), s.code = 0 → (s.place = 1 ∨ s.place = 3) → (s.place = 1 → r.head? ≠ some 45) →
    ∃ p, (p = 1 ∨ p = 3) ∧ (p = 1 → (r.dropWhile Pm.blank).head? ≠ some 45) ∧ outs m s r = outs m { s with place := p } (r.dropWhile Pm.blank) ∧ fold m s r = fold m { s with place := p } (r.dropWhile Pm.blank)
  | [], s, _, hp, h45 => ⟨s.place, hp, h45, rfl, rfl⟩
  | c :: t, s, hc, hp, h45 => by
    rw [List.dropWhile_cons]
    cases hb : Pm.blank c
    · rw [if_neg (by simp)]
      exact ⟨s.place, hp, h45, rfl, rfl⟩
    · rw [if_pos rfl]
      obtain ⟨g1, g2⟩ := mark_on m (by omega) hc c t (turn_blank hp hb) (by decide)
      obtain ⟨p, i1, i2, i3, i4⟩ := blanks_run m t { s with place := 3 } hc (Or.inr rfl) (fun e => by cases e)
      exact ⟨p, i1, i2, g1.trans i3, g2.trans i4⟩
theorem held_two {m : List UInt8} (h2 : m.take 2 = [13, 10]) (h3 : 3 ≤ m.length) : Sk.held m [13, 10] = 2 := by
  have hh := Sk.held_is m [13, 10]
  have hle := Sk.held_le_len m [13, 10]
  rcases Nat.lt_or_ge (Sk.held m [13, 10]) 2 with hlt | hge
  · exact absurd (by rw [h2]; exact List.suffix_refl _) (hh.2.2 2 hlt (by omega))
  · exact Nat.le_antisymm (by simpa using hle) hge
theorem dropWhile_head (r : List UInt8) {c : UInt8} {t : List UInt8} (h : r.dropWhile Pm.blank = c :: t) : Pm.blank c = false := by
  have := List.head_dropWhile_not Pm.blank (l := r) (by rw [h]; simp)
  simpa [h] using this
theorem dropWhile_le (r : List UInt8) : (r.dropWhile Pm.blank).length ≤ r.length := (List.dropWhile_suffix Pm.blank).length_le
theorem bytes_start {m : List UInt8} (h2 : m.take 2 = [13, 10]) (h3 : 3 ≤ m.length) {s : St} (hp : s.place = 0) (hc : s.code = 0) (hh : s.held = 2) (ha : s.ahead = 2) : AtBytes m s [13, 10] :=
  ⟨hp, hc, by rw [hh, held_two h2 h3], by rw [ha, sent_length, held_two h2 h3]; rfl⟩
theorem sent_start {m : List UInt8} (h2 : m.take 2 = [13, 10]) (h3 : 3 ≤ m.length) : sent m [13, 10] = [] := List.eq_nil_of_length_eq_zero (by rw [sent_length, held_two h2 h3]; rfl)
/-- where the mark ends, in bytes behind CR and LF -/
theorem find_split {m q : List UInt8} {k : Nat} (h5 : 5 ≤ m.length) (h : find m (13 :: 10 :: q) = some k) :
    ∃ a c r, q = a ++ c :: r ∧ Sk.Free m ([13, 10] ++ a) ∧ m <:+ [13, 10] ++ a ++ [c] ∧ r = (13 :: 10 :: q).drop (k + m.length) ∧ ∀ x, [13, 10] ++ a ++ [c] = x ++ m → x = (13 :: 10 :: q).take k := by
  obtain ⟨h1, h2⟩ := find_some (by omega) h
  obtain ⟨y, hy⟩ := h1
  have hk : k + m.length ≤ (13 :: 10 :: q).length := by
    have := congrArg List.length hy
    rw [List.length_append, List.length_drop] at this; omega
  have hx : (13 :: 10 :: q) = (13 :: 10 :: q).take k ++ (m ++ y) := by rw [hy, List.take_append_drop]
  have hyd : y = (13 :: 10 :: q).drop (k + m.length) := by
    rw [← List.drop_drop, ← hy, List.drop_left]
  have ht : (13 :: 10 :: q).take (k + m.length) = (13 :: 10 :: q).take k ++ m := by
    have hl : ((13 :: 10 :: q).take k ++ m).length = k + m.length := by rw [List.length_append, List.length_take]; omega
    conv => lhs; rw [hx, ← List.append_assoc, ← hl, List.take_left]
  obtain ⟨j, hj⟩ : ∃ j, k + m.length = j + 3 := ⟨k + m.length - 3, by omega⟩
  have hlt : j < q.length := by simp only [List.length_cons] at hk; omega
  have e1 : (13 :: 10 :: q).take (k + m.length - 1) = [13, 10] ++ q.take j := by rw [hj]; rfl
  have e2 : (13 :: 10 :: q).take (k + m.length) = [13, 10] ++ q.take j ++ [q[j]] := by
    rw [hj]
    show 13 :: 10 :: q.take (j + 1) = 13 :: 10 :: (q.take j ++ [q[j]])
    rw [List.take_succ_eq_append_getElem hlt]
  refine ⟨q.take j, q[j], q.drop (j + 1), ?_, ?_, ?_, ?_, fun x hx2 => ?_⟩
  · rw [← List.drop_eq_getElem_cons hlt, List.take_append_drop]
  · rw [← e1]; exact h2
  · rw [← e2, ht]; exact List.suffix_append _ _
  · rw [hj]; rfl
  · rw [← e2, ht] at hx2
    exact (List.append_cancel_right hx2).symm
theorem line_part {s : St} {fs : List Rq.Fl} {p : Prt} (hp : part fs = .inr p) (h12 : s.parts ≠ 12) : line { s with fields := fs } [] = ({ s with fields := [], parts := s.parts + 1, place := 0, held := 2, ahead := 2 }, [partD p]) := by
  unfold line
  rw [if_neg (fun h => h rfl)]
  simp only [hp]
  rw [if_neg h12]
theorem val_code {r : List UInt8} {c : Nat} (h : Pm.val r = .inl c) : c ≠ 0 := by
  unfold Pm.val at h
  repeat' split at h
  all_goals (first | cases h; done | (injection h with h; omega))
theorem par_code {r : List UInt8} {c : Nat} (h : Pm.par r = .inl c) : c ≠ 0 := by
  unfold Pm.par at h
  split at h
  · simp only [] at h
    split at h
    · injection h with h; omega
    · split at h
      · split at h
        · rename_i hv; injection h with h; subst h; exact val_code hv
        · cases h
      · injection h with h; omega
  · injection h with h; omega
theorem pars_code : ∀ (n : Nat) (r : List UInt8) (acc : List Pm.Par) (c : Nat), Pm.pars n r acc = .inl c → c ≠ 0
  | 0, r, acc, c, h => by rw [Pm.pars] at h; cases h
  | n + 1, r, acc, c, h => by
    rw [Pm.pars] at h
    split at h
    · cases h
    · split at h
      · rename_i hp; injection h with h; subst h; exact par_code hp
      · split at h
        · injection h with h; omega
        · split at h
          · injection h with h; omega
          · exact pars_code n _ _ c h
theorem media_code {l : List UInt8} {c : Nat} (h : Pm.media l = .inl c) : c ≠ 0 := by
  unfold Pm.media at h
  split at h
  · injection h with h; omega
  · split at h
    · rename_i hw
      injection h with h; subst h
      unfold Pm.wrd at hw
      simp only [] at hw
      repeat' split at hw
      all_goals (first | (injection hw with hw; omega) | (cases hw; done))
    · unfold Pm.fin at h
      split at h
      · rename_i hp; injection h with h; subst h; exact pars_code _ _ _ _ hp
      · cases h
theorem part_code {fs : List Rq.Fl} {c : Nat} (h : part fs = .inl c) : c ≠ 0 := by
  unfold part partBy at h
  split at h
  · rename_i hd; injection h with h; subst h; exact hd
  · split at h
    · rename_i hm; injection h with h; subst h; exact media_code hm
    · repeat' split at h
      all_goals (first | (injection h with h; omega) | (cases h; done))
theorem ofM_run {m : List UInt8} (h2 : m.take 2 = [13, 10]) (h5 : 5 ≤ m.length) : ∀ (f parts : Nat) (r : List UInt8) (s : St), r.length < f → s.place = 1 → AtMark s parts → Tells m s r (ofM m f parts r)
  | 0, _, r, s, hf, _, _ => by omega
  | f + 1, parts, r, s, hf, hp, hA => by
    rw [ofM]
    by_cases hr : r = []
    · subst hr
      rw [if_pos rfl]
      exact Tells.open_ rfl ⟨hA.code, by show s.place ≠ 6; omega⟩
    · rw [if_neg hr]
      by_cases h45 : r.head? = some 45
      · rw [if_pos h45]
        obtain ⟨t, rfl⟩ : ∃ t, r = 45 :: t := by
          cases r with
          | nil => exact absurd rfl hr
          | cons c t => simp at h45; exact ⟨t, by rw [h45]⟩
        obtain ⟨g1, g2⟩ := mark_on m (s := s) (p := 2) (by omega) hA.code 45 t (by rw [hp]; rfl) (by decide)
        cases t with
        | nil =>
          rw [if_pos (by rfl)]
          exact Tells.open_ g1 (by rw [g2]; exact ⟨hA.code, by show (2 : Nat) ≠ 6; decide⟩)
        | cons d t =>
          rw [if_neg (by simp)]
          by_cases hd : d = 45
          · subst hd
            rw [if_neg (by simp)]
            have hN := next_mark m (s := { s with place := 2 }) (Or.inr (Or.inl rfl)) hA.code 45
            have hN : next m { s with place := 2 } 45 = (done, [finD]) := hN
            obtain ⟨k1, k2⟩ := dead_run (m := m) t done_dead
            intro es
            rw [g1, g2]
            constructor
            · show flush (tells ⟨es, []⟩ ((next m { s with place := 2 } 45).2 ++ outs m (next m { s with place := 2 } 45).1 t)) = _
              rw [hN, k1]
              exact flush_one es finD (by decide)
            · show close (fold m (next m { s with place := 2 } 45).1 t) = 0
              rw [hN, k2]; exact close_done
          · rw [if_pos (by simpa using hd)]
            have hT := mark_fail m (s := { s with place := 2 }) (Or.inr (Or.inl rfl)) hA.code d t (k := 5) (by show (turn 2 d).2 = 5; unfold turn; rw [if_neg (by decide), if_pos rfl, if_neg hd]) (by decide)
            intro es
            rw [g1, g2]; exact hT es
      · rw [if_neg h45]
        obtain ⟨p, hp3, hp45, g1, g2⟩ := blanks_run m r s hA.code (Or.inl hp) (fun _ => h45)
        have hle := dropWhile_le r
        have hw : ∀ q, Tells m { s with place := p } (r.dropWhile Pm.blank) q → Tells m s r q := fun q h es => by rw [g1, g2]; exact h es
        have hbl := @dropWhile_head r
        generalize r.dropWhile Pm.blank = q at *
        cases q with
        | nil =>
          rw [if_pos rfl]
          exact hw _ (Tells.open_ rfl ⟨hA.code, by show p ≠ 6; omega⟩)
        | cons c q =>
          rw [if_neg (by simp)]
          have hto := turn_other hp3 (hbl rfl) (fun e hc => hp45 e (by rw [hc]; rfl))
          by_cases h13 : c = 13
          · subst h13
            rw [if_neg (by simp)]
            rw [if_pos rfl] at hto
            obtain ⟨k1, k2⟩ := mark_on m (s := { s with place := p }) (p := 4) (by show p = 1 ∨ p = 2 ∨ p = 3 ∨ p = 4; omega) hA.code 13 q hto (by decide)
            cases q with
            | nil =>
              rw [if_pos (by rfl)]
              exact hw _ (Tells.open_ k1 (by rw [k2]; exact ⟨hA.code, by show (4 : Nat) ≠ 6; decide⟩))
            | cons d q =>
              rw [if_neg (by simp)]
              by_cases h10 : d = 10
              · subst h10
                rw [if_neg (by simp)]
                obtain ⟨k3, k4⟩ := mark_on m (s := { s with place := 4 }) (p := 5) (Or.inr (Or.inr (Or.inr rfl))) hA.code 10 q rfl (by decide)
                have hw2 : ∀ u, Tells m { s with place := 5 } q u → Tells m s r u := fun u h => hw u (fun es => by rw [k1, k2]; show flush (tells _ (outs m { s with place := 4 } _)) = _ ∧ close (fold m { s with place := 4 } _) = _; rw [k3, k4]; exact h es)
                have hH : AtHead { s with place := 5 } := ⟨rfl, hA.code, hA.ln⟩
                have hfr := fields_run m (q.length + 1) q { s with place := 5 } (by omega) hH
                have hfs : Rq.flds (q.length + 1) q ({ s with place := 5 } : St).fields = Rq.flds (q.length + 1) q [] := congrArg (Rq.flds (q.length + 1) q) hA.fields
                rw [hfs] at hfr
                show Tells m s r (match Rq.flds (q.length + 1) q [] with | .fail c => _ | .open_ => _ | .ok fs q => _)
                generalize Rq.flds (q.length + 1) q [] = F at hfr ⊢
                cases F with
                | fail c => exact hw2 _ (Tells.fail hfr.1 hfr.2.1 hfr.2.2)
                | open_ => exact hw2 _ (Tells.open_ hfr.1 hfr.2)
                | ok fs q2 =>
                  obtain ⟨f1, f2, f3⟩ := hfr
                  simp only
                  cases hpt : part fs with
                  | inl c =>
                    have hL : line { ({ s with place := 5 } : St) with fields := fs } [] = fails c := by unfold line; rw [if_neg (fun h => h rfl)]; simp only [hpt]
                    rw [hL] at f1 f2
                    have hc0 := part_code hpt
                    obtain ⟨e1, e2⟩ := fails_run m hc0 q2
                    exact hw2 _ (Tells.fail hc0 (f1.trans e1) (f2.trans e2))
                  | inr pr =>
                    simp only
                    by_cases h12 : parts = 12
                    · rw [if_pos h12]
                      have hL : line { ({ s with place := 5 } : St) with fields := fs } [] = fails 8 := by
                        unfold line; rw [if_neg (fun h => h rfl)]; simp only [hpt]; rw [if_pos (by rw [hA.parts]; exact h12)]
                      rw [hL] at f1 f2
                      obtain ⟨e1, e2⟩ := fails_run m (c := 8) (by decide) q2
                      exact hw2 _ (Tells.fail (by decide) (f1.trans e1) (f2.trans e2))
                    · rw [if_neg h12]
                      have hL := line_part (s := { s with place := 5 }) hpt (by show s.parts ≠ 12; rw [hA.parts]; exact h12)
                      rw [hL] at f1 f2
                      have hB := bytes_start (s := { s with fields := [], parts := s.parts + 1, place := 0, held := 2, ahead := 2 }) h2 (by omega) rfl hA.code rfl rfl
                      have hs0 := sent_start h2 (by omega)
                      have hq : q2.length < r.length := by simp only [List.length_cons] at hle; omega
                      refine hw2 _ (fun es => ?_)
                      rw [f1, f2, tells_append]
                      have e1 : tells ⟨es, []⟩ [partD pr] = ⟨es ++ [partD pr], []⟩ := by
                        show tell ⟨es, []⟩ (partD pr) = _
                        unfold tell
                        rw [if_neg (by show (5 : Int) ≠ 2; decide)]
                        unfold flush someD
                        simp
                      rw [e1]
                      cases hfd : find m (13 :: 10 :: q2) with
                      | none =>
                        obtain ⟨i1, i2, i3, i4, i5⟩ := bytes_free m (by omega) q2 _ [13, 10] ⟨es ++ [partD pr], []⟩ hB (find_none hfd)
                        rw [hs0] at i5
                        simp only [List.drop_nil, if_pos (Nat.succ_pos _), List.append_nil] at i5
                        refine ⟨?_, close_live ⟨i1.code, by rw [i1.place]; decide⟩⟩
                        show flush (tells _ (outs m { s with fields := [], parts := s.parts + 1, place := 0, held := 2, ahead := 2 } q2)) = _
                        rw [i5]
                        show (es ++ [partD pr]) ++ someD _ = _
                        rw [List.append_assoc]; rfl
                      | some k =>
                        obtain ⟨a, c, u, j1, j2, j3, j4, j5⟩ := find_split h5 hfd
                        obtain ⟨s1, l1, l2, l3, l4, l5, l6, l7, l8, l9⟩ := bytes_mark m (by omega) a c u _ [13, 10] ⟨es ++ [partD pr], []⟩ hB j2 j3
                        rw [hs0] at l8
                        simp only [List.drop_nil, if_pos (Nat.succ_pos _), List.append_nil] at l8
                        have ih := ofM_run h2 h5 f (parts + 1) u s1 (by have := congrArg List.length j1; rw [List.length_append, List.length_cons] at this; omega) l1 ⟨l2, l3, l5.trans hA.ln, l6, l4.trans (by show s.parts + 1 = _; rw [hA.parts])⟩
                        rw [← j1] at l7 l8
                        have hx := j5 _ l9
                        refine ⟨?_, ?_⟩
                        · show flush (tells _ (outs m { s with fields := [], parts := s.parts + 1, place := 0, held := 2, ahead := 2 } q2)) = _
                          rw [l8, (ih _).1]
                          show ((es ++ [partD pr]) ++ someD ([] ++ (sent m ([13, 10] ++ a)).drop 2) ++ [overD]) ++ _ = es ++ (partD pr :: someD _ ++ overD :: _)
                          rw [hx, ← j4]
                          simp
                        · show close (fold m { s with fields := [], parts := s.parts + 1, place := 0, held := 2, ahead := 2 } q2) = _
                          rw [l7, (ih []).2, j4]
              · rw [if_pos (by simpa using h10)]
                refine hw _ (fun es => ?_)
                rw [k1, k2]
                exact mark_fail m (s := { s with place := 4 }) (Or.inr (Or.inr (Or.inr rfl))) hA.code d q (k := 2) (by show (turn 4 d).2 = 2; unfold turn; rw [if_pos rfl, if_neg h10]) (by decide) es
          · rw [if_pos (by simpa using h13)]
            rw [if_neg h13] at hto
            exact hw _ (mark_fail m (s := { s with place := p }) (by show p = 1 ∨ p = 2 ∨ p = 3 ∨ p = 4; omega) hA.code c q (k := 5) (by show (turn p c).2 = 5; rw [hto]) (by decide))
/-- a form, at once -/
theorem of_run {m : List UInt8} (h2 : m.take 2 = [13, 10]) (h5 : 5 ≤ m.length) (b : List UInt8) : flush (tells td0 (outs m start b)) = (of m b).1 ∧ close (fold m start b) = (of m b).2 := by
  have hB := bytes_start (s := start) h2 (by omega) rfl rfl rfl rfl
  unfold of
  cases hfd : find m (13 :: 10 :: b) with
  | none =>
    obtain ⟨i1, i2, i3, i4, i5⟩ := bytes_free m (by omega) b start [13, 10] td0 hB (find_none hfd)
    have hp : ¬ 0 < start.parts := by decide
    rw [if_neg hp, if_neg hp] at i5
    exact ⟨by rw [show td0 = ⟨td0.es, td0.bs ++ []⟩ from rfl, i5]; rfl, close_live ⟨i1.code, by rw [i1.place]; decide⟩⟩
  | some k =>
    obtain ⟨a, c, u, j1, j2, j3, j4, j5⟩ := find_split h5 hfd
    obtain ⟨s1, l1, l2, l3, l4, l5, l6, l7, l8, l9⟩ := bytes_mark m (by omega) a c u start [13, 10] td0 hB j2 j3
    have hp : ¬ 0 < start.parts := by decide
    rw [if_neg hp, if_neg hp] at l8
    have ih := ofM_run h2 h5 (b.length + 1) 0 u s1 (by have := congrArg List.length j1; rw [List.length_append, List.length_cons] at this; omega) l1 ⟨l2, l3, l5, l6, l4⟩
    rw [← j1] at l7 l8
    simp only
    rw [← j4]
    refine ⟨?_, by rw [l7]; exact (ih []).2⟩
    rw [show td0 = ⟨td0.es, td0.bs ++ []⟩ from rfl, l8]
    exact (ih []).1
end Go.Proofs.YtjpenioloeplgadGreatDoor.Fm

/- Plain laws of forms of a stream, with no program in them: bounds of what is told while bytes come. -/
namespace Go.Proofs.YtjpenioloeplgadGreatDoor.Fm

theorem line_ahead (s : St) (t : List UInt8) (h : s.ahead ≤ 2) : (line s t).1.ahead ≤ 2 := by
  unfold line
  split
  · split
    · exact Nat.zero_le _
    · split
      · exact Nat.zero_le _
      · exact h
  · split
    · exact Nat.zero_le _
    · split
      · exact Nat.zero_le _
      · exact Nat.le_refl _
theorem next_ahead (m : List UInt8) (s : St) (c : UInt8) (h : s.ahead ≤ 2) : (next m s c).1.ahead ≤ 2 := by
  unfold next
  split
  · exact h
  · split
    · show s.ahead - _ ≤ 2; omega
    · split
      · split
        · exact Nat.zero_le _
        · split
          · exact line_ahead _ _ h
          · exact h
      · split
        · exact Nat.zero_le _
        · split
          · exact Nat.zero_le _
          · exact h
theorem fold_ahead (m : List UInt8) : ∀ (l : List UInt8) (s : St), s.ahead ≤ 2 → (fold m s l).ahead ≤ 2
  | [], _, h => h
  | c :: t, s, h => fold_ahead m t _ (next_ahead m s c h)
/-- how much waits -/
theorem tells_few {m : List UInt8} (hm : 3 ≤ m.length) {s : St} (h : Good m s) (l : List UInt8) : (tells td0 (outs m s l)).es.length ≤ 2 * l.length ∧ (tells td0 (outs m s l)).bs.length ≤ s.held + 2 * l.length := by
  obtain ⟨h1, h2⟩ := outs_few hm l h
  have h3 := (flush_tells _ (clean_outs m l s)).1
  have h4 := joinD_length (outs m s l)
  have h5 := joinD_sum (outs m s l)
  rw [← h3] at h4 h5
  generalize tells td0 (outs m s l) = t at *
  obtain ⟨es, bs⟩ := t
  unfold flush at h4 h5
  simp only at *
  rw [List.length_append] at h4
  rw [sumD_append, sum_someD] at h5
  exact ⟨by omega, by omega⟩
theorem mark_facts (b : List UInt8) (h : b ≠ []) (hb : b.length ≤ 70) : (mark b).take 2 = [13, 10] ∧ 5 ≤ (mark b).length ∧ (mark b).length ≤ 74 := by
  refine ⟨rfl, ?_, ?_⟩
  · have := List.length_pos_iff.2 h
    show 5 ≤ b.length + 1 + 1 + 1 + 1; omega
  · show b.length + 1 + 1 + 1 + 1 ≤ 74; omega
end Go.Proofs.YtjpenioloeplgadGreatDoor.Fm

/- Plain laws of forms of a stream, with no program in them: bytes come behind a part; parts out of events. -/
namespace Go.Proofs.YtjpenioloeplgadGreatDoor.Fm

def hasPart (l : List EvD) : Prop := ∃ x ∈ l, x.kind = 5
/-- bytes come behind a part -/
def Led (l : List EvD) : Prop := ∀ q e r, l = q ++ e :: r → e.kind = 2 → hasPart q
theorem hasPart.left {a b : List EvD} (h : hasPart a) : hasPart (a ++ b) := by obtain ⟨x, hx, hk⟩ := h; exact ⟨x, List.mem_append_left _ hx, hk⟩
theorem Led.nil : Led [] := fun q e r h => by
  have := congrArg List.length h
  rw [List.length_append, List.length_cons, List.length_nil] at this; omega
theorem Led.snoc {q : List EvD} {e : EvD} (h : Led q) (he : e.kind = 2 → hasPart q) : Led (q ++ [e]) := by
  intro q2 e2 r h2 hk
  rcases List.eq_nil_or_concat r with rfl | ⟨r', x, rfl⟩
  · obtain ⟨h3, h4⟩ := List.append_inj' h2 rfl
    subst h3
    injection h4 with h4
    subst h4
    exact he hk
  · rw [List.concat_eq_append, ← List.cons_append, ← List.append_assoc] at h2
    obtain ⟨h3, _⟩ := List.append_inj' h2 rfl
    exact h q2 e2 r' h3 hk
theorem Led.front {a b : List EvD} (h : Led (a ++ b)) : Led a := fun q e r h2 hk => h q e (r ++ b) (by rw [h2]; simp) hk
theorem hasPart_add {l : List EvD} {e : EvD} (h : hasPart l ∨ e.kind = 5) : hasPart (addD l e) := by
  by_cases hm : e.kind = 2 ∧ tailD l = true
  · obtain ⟨q, x, rfl, hx⟩ := tailD_split hm.2
    rw [addD_merge q x e hx hm.1]
    rcases h with ⟨y, hy, hk⟩ | h
    · rcases List.mem_append.1 hy with hy | hy
      · exact ⟨y, List.mem_append_left _ hy, hk⟩
      · rw [List.mem_singleton.1 hy, hx] at hk; cases hk
    · rw [hm.1] at h; cases h
  · rw [addD_plain l e (fun k => by
      cases ht : tailD l
      · rfl
      · exact absurd ⟨k, ht⟩ hm)]
    rcases h with h | h
    · exact h.left
    · exact ⟨e, by simp, h⟩
theorem join_led : ∀ (n : Nat) (l : List EvD), l.length = n → Led l → Led (joinD l) ∧ (hasPart l → hasPart (joinD l))
  | 0, l, hn, _ => by rw [List.eq_nil_of_length_eq_zero hn]; exact ⟨Led.nil, fun h => h⟩
  | n + 1, l, hn, h => by
    rcases List.eq_nil_or_concat l with rfl | ⟨q, x, rfl⟩
    · exact ⟨Led.nil, fun h => h⟩
    · rw [List.concat_eq_append] at hn h ⊢
      obtain ⟨i1, i2⟩ := join_led n q (by simpa using hn) h.front
      have hx : x.kind = 2 → hasPart q := fun hk => h q x [] rfl hk
      rw [joinD_snoc]
      refine ⟨?_, fun hp => hasPart_add ?_⟩
      · by_cases hm : x.kind = 2 ∧ tailD (joinD q) = true
        · obtain ⟨p, y, hpy, hy⟩ := tailD_split hm.2
          rw [hpy] at i1 ⊢
          rw [addD_merge p y x hy hm.1]
          exact i1.front.snoc (fun _ => i1 p y [] rfl hy)
        · rw [addD_plain _ x (fun k => by
            cases ht : tailD (joinD q)
            · rfl
            · exact absurd ⟨k, ht⟩ hm)]
          exact i1.snoc (fun hk => i2 (hx hk))
      · obtain ⟨y, hy, hk⟩ := hp
        rcases List.mem_append.1 hy with hy | hy
        · exact Or.inl (i2 ⟨y, hy, hk⟩)
        · rw [List.mem_singleton.1 hy] at hk; exact Or.inr hk
theorem Led.none_ {a b : List EvD} (h : Led a) (hb : ∀ e ∈ b, e.kind ≠ 2) : Led (a ++ b) := by
  induction b generalizing a with
  | nil => rw [List.append_nil]; exact h
  | cons e r ih =>
    have := ih (h.snoc (e := e) (fun k => absurd k (hb e (List.mem_cons_self ..)))) (fun x hx => hb x (List.mem_cons_of_mem _ hx))
    rw [List.append_assoc] at this
    exact this
theorem Led.some_ {a b : List EvD} (h : Led a) (hp : hasPart a) : Led (a ++ b) := by
  induction b generalizing a with
  | nil => rw [List.append_nil]; exact h
  | cons e r ih =>
    have := ih (h.snoc (e := e) (fun _ => hp)) hp.left
    rw [List.append_assoc] at this
    exact this
theorem line_kinds (s : St) (t : List UInt8) : (∀ e ∈ (line s t).2, e.kind ≠ 2) ∧ (0 < (line s t).1.parts → 0 < s.parts ∨ hasPart (line s t).2) := by
  unfold line
  split
  · split
    · exact ⟨fun e he => by rw [List.mem_singleton.1 he]; show (4 : Int) ≠ 2; decide, fun h => absurd h (by decide)⟩
    · split
      · exact ⟨fun e he => by rw [List.mem_singleton.1 he]; show (4 : Int) ≠ 2; decide, fun h => absurd h (Nat.lt_irrefl 0)⟩
      · exact ⟨(fun e he => by cases he), fun h => Or.inl h⟩
  · split
    · exact ⟨fun e he => by rw [List.mem_singleton.1 he]; show (4 : Int) ≠ 2; decide, fun h => absurd h (Nat.lt_irrefl 0)⟩
    · split
      · exact ⟨fun e he => by rw [List.mem_singleton.1 he]; show (4 : Int) ≠ 2; decide, fun h => absurd h (by decide)⟩
      · rename_i p _ _
        exact ⟨fun e he => by rw [List.mem_singleton.1 he]; show (5 : Int) ≠ 2; decide, fun _ => Or.inr ⟨partD p, by simp, rfl⟩⟩
theorem next_led {m : List UInt8} {s : St} (c : UInt8) {o : List EvD} (h : Led o) (hp : 0 < s.parts → hasPart o) : Led (o ++ (next m s c).2) ∧ (0 < (next m s c).1.parts → hasPart (o ++ (next m s c).2)) := by
  unfold next
  split
  · exact ⟨by rw [List.append_nil]; exact h, fun k => (hp k).left⟩
  · split
    · show Led (o ++ if 0 < s.parts then _ else _) ∧ (0 < s.parts → _)
      by_cases hq : 0 < s.parts
      · rw [if_pos hq]; exact ⟨h.some_ (hp hq), fun _ => (hp hq).left⟩
      · rw [if_neg hq]; exact ⟨by rw [List.append_nil]; exact h, fun k => absurd k hq⟩
    · split
      · split
        · exact ⟨h.none_ (fun e he => by rw [List.mem_singleton.1 he]; show (4 : Int) ≠ 2; decide), fun k => absurd k (Nat.lt_irrefl 0)⟩
        · split
          · obtain ⟨k1, k2⟩ := line_kinds { s with ln := Ln.next s.ln c } (Ln.text s.ln c)
            refine ⟨h.none_ k1, fun k => ?_⟩
            rcases k2 k with k | ⟨x, hx, hk⟩
            · exact (hp k).left
            · exact ⟨x, List.mem_append_right _ hx, hk⟩
          · exact ⟨by rw [List.append_nil]; exact h, fun k => (hp k).left⟩
      · split
        · exact ⟨h.none_ (fun e he => by rw [List.mem_singleton.1 he]; show (4 : Int) ≠ 2; decide), fun k => absurd k (Nat.lt_irrefl 0)⟩
        · split
          · exact ⟨h.none_ (fun e he => by rw [List.mem_singleton.1 he]; show (3 : Int) ≠ 2; decide), fun k => absurd k (Nat.lt_irrefl 0)⟩
          · exact ⟨by rw [List.append_nil]; exact h, fun k => (hp k).left⟩
theorem outs_led (m : List UInt8) : ∀ (l : List UInt8) (s : St) (o : List EvD), Led o → (0 < s.parts → hasPart o) → Led (o ++ outs m s l)
  | [], _, o, h, _ => by show Led (o ++ []); rw [List.append_nil]; exact h
  | c :: t, s, o, h, hp => by
    obtain ⟨h1, h2⟩ := next_led (m := m) c h hp
    have := outs_led m t (next m s c).1 (o ++ (next m s c).2) h1 h2
    rw [List.append_assoc] at this
    exact this
/-- bytes that are told come behind a part -/
theorem told_led (m l : List UInt8) : Led (joinD (outs m start l)) := (join_led _ _ rfl (by have := outs_led m l start [] Led.nil (fun h => absurd h (by decide)); simpa using this)).1
theorem Led.at_ {l : List EvD} (h : Led l) {k : Nat} (hk : k < l.length) (h2 : l[k].kind = 2) : hasPart (l.take k) := h (l.take k) l[k] (l.drop (k + 1)) (by rw [← List.drop_eq_getElem_cons hk, List.take_append_drop]) h2
/-- a part with its bytes -/
structure Pt where
  name : ByteArray
  file : ByteArray
  type : ByteArray
  bytes : List UInt8
/-- one event more -/
def laid (acc : List Pt) (e : EvD) : List Pt := if e.kind = 5 then acc ++ [⟨e.pname, e.pfile, e.ptype, e.pbytes⟩] else if e.kind = 2 then acc.dropLast ++ (acc.getLast?.map fun p => { p with bytes := e.bytes }).toList else acc
def gath (l : List EvD) : List Pt := l.foldl laid []
theorem gath_snoc (l : List EvD) (e : EvD) : gath (l ++ [e]) = laid (gath l) e := by unfold gath; rw [List.foldl_append]; rfl
theorem laid_length (acc : List Pt) (e : EvD) : acc.length ≤ (laid acc e).length ∧ (laid acc e).length ≤ acc.length + 1 := by
  unfold laid
  split
  · simp
  · split
    · rcases List.eq_nil_or_concat acc with rfl | ⟨q, x, rfl⟩
      · simp
      · rw [List.concat_eq_append, List.dropLast_concat, List.getLast?_append]; simp
    · simp
theorem gath_some : ∀ (n : Nat) (l : List EvD), l.length = n → hasPart l → 0 < (gath l).length
  | 0, l, hn, ⟨x, hx, _⟩ => by rw [List.eq_nil_of_length_eq_zero hn] at hx; cases hx
  | n + 1, l, hn, h => by
    rcases List.eq_nil_or_concat l with rfl | ⟨q, x, rfl⟩
    · obtain ⟨_, hx, _⟩ := h; cases hx
    · rw [List.concat_eq_append] at hn h ⊢
      rw [gath_snoc]
      obtain ⟨y, hy, hk⟩ := h
      rcases List.mem_append.1 hy with hy | hy
      · have := gath_some n q (by simpa using hn) ⟨y, hy, hk⟩
        have := (laid_length (gath q) x).1
        omega
      · rw [List.mem_singleton.1 hy] at hk
        unfold laid
        rw [if_pos hk]; simp
theorem gath_length (l : List EvD) : (gath l).length ≤ l.length := by
  have : ∀ (m : List EvD) (o : List Pt), (m.foldl laid o).length ≤ o.length + m.length := by
    intro m
    induction m with
    | nil => intro o; simp
    | cons e r ih => intro o; rw [List.foldl_cons]; have h1 := ih (laid o e); have h2 := (laid_length o e).2; simp only [List.length_cons]; omega
  have h := this l []
  simpa [gath] using h
end Go.Proofs.YtjpenioloeplgadGreatDoor.Fm

/- Plain laws of forms of a stream, with no program in them: a form at once, step by step as the document's own answer goes. -/
namespace Go.Proofs.YtjpenioloeplgadGreatDoor.Fm

/-- behind a part's head -/
def ofQ (m : List UInt8) (f parts : Nat) (p : Prt) (q : List UInt8) : List EvD × Nat :=
  match find m (13 :: 10 :: q) with
  | none => (partD p :: someD ((sent m (13 :: 10 :: q)).drop 2), 14)
  | some k => (partD p :: someD (((13 :: 10 :: q).take k).drop 2) ++ overD :: (ofM m f (parts + 1) ((13 :: 10 :: q).drop (k + m.length))).1, (ofM m f (parts + 1) ((13 :: 10 :: q).drop (k + m.length))).2)
/-- behind a head's fields -/
def ofH (m : List UInt8) (f parts : Nat) : Rq.Fs → List EvD × Nat
  | .fail c => ([failD c], c)
  | .open_ => ([], 14)
  | .ok fs q => match part fs with
    | .inl c => ([failD c], c)
    | .inr p => if parts = 12 then ([failD 8], 8) else ofQ m f parts p q
theorem ofM_nil (m : List UInt8) (f parts : Nat) : ofM m (f + 1) parts [] = ([], 14) := by rw [ofM, if_pos rfl]
theorem ofM_dash (m : List UInt8) (f parts : Nat) : ofM m (f + 1) parts [45] = ([], 14) := by rw [ofM, if_neg (by simp), if_pos (by rfl), if_pos (by rfl)]
theorem ofM_dash_bad (m : List UInt8) (f parts : Nat) {d : UInt8} (t : List UInt8) (h : d ≠ 45) : ofM m (f + 1) parts (45 :: d :: t) = ([failD 5], 5) := by
  rw [ofM, if_neg (by simp), if_pos (by rfl), if_neg (by simp), if_pos (by simpa using h)]
theorem ofM_end (m : List UInt8) (f parts : Nat) (t : List UInt8) : ofM m (f + 1) parts (45 :: 45 :: t) = ([finD], 0) := by
  rw [ofM, if_neg (by simp), if_pos (by rfl), if_neg (by simp), if_neg (by simp)]
/-- behind blanks -/
theorem ofM_open (m : List UInt8) (f parts : Nat) {r : List UInt8} (h0 : r ≠ []) (h : r.head? ≠ some 45) (hd : r.dropWhile Pm.blank = []) : ofM m (f + 1) parts r = ([], 14) := by
  rw [ofM, if_neg h0, if_neg h, if_pos hd]
theorem ofM_form (m : List UInt8) (f parts : Nat) {r : List UInt8} {c : UInt8} {t : List UInt8} (h0 : r ≠ []) (h : r.head? ≠ some 45) (hd : r.dropWhile Pm.blank = c :: t) (hc : c ≠ 13) : ofM m (f + 1) parts r = ([failD 5], 5) := by
  rw [ofM, if_neg h0, if_neg h, if_neg (by rw [hd]; simp), if_pos (by rw [hd]; simpa using hc)]
theorem ofM_half (m : List UInt8) (f parts : Nat) {r : List UInt8} (h0 : r ≠ []) (h : r.head? ≠ some 45) (hd : r.dropWhile Pm.blank = [13]) : ofM m (f + 1) parts r = ([], 14) := by
  rw [ofM, if_neg h0, if_neg h, if_neg (by rw [hd]; simp), if_neg (by rw [hd]; simp), if_pos (by rw [hd]; rfl)]
theorem ofM_line (m : List UInt8) (f parts : Nat) {r : List UInt8} {c : UInt8} {t : List UInt8} (h0 : r ≠ []) (h : r.head? ≠ some 45) (hd : r.dropWhile Pm.blank = 13 :: c :: t) (hc : c ≠ 10) : ofM m (f + 1) parts r = ([failD 2], 2) := by
  rw [ofM, if_neg h0, if_neg h, if_neg (by rw [hd]; simp), if_neg (by rw [hd]; simp), if_neg (by rw [hd]; simp), if_pos (by rw [hd]; simpa using hc)]
theorem ofM_head (m : List UInt8) (f parts : Nat) {r t : List UInt8} (h0 : r ≠ []) (h : r.head? ≠ some 45) (hd : r.dropWhile Pm.blank = 13 :: 10 :: t) : ofM m (f + 1) parts r = ofH m f parts (Rq.flds (t.length + 1) t []) := by
  rw [ofM, if_neg h0, if_neg h, if_neg (by rw [hd]; simp), if_neg (by rw [hd]; simp), if_neg (by rw [hd]; simp), if_neg (by rw [hd]; simp), hd]
  show (match Rq.flds (t.length + 1) t [] with | .fail c => _ | .open_ => _ | .ok fs q => _) = _
  cases Rq.flds (t.length + 1) t [] with
  | fail c => rfl
  | open_ => rfl
  | ok fs q =>
    show (match part fs with | .inl c => _ | .inr p => _) = (match part fs with | .inl c => _ | .inr p => _)
    cases part fs with
    | inl c => rfl
    | inr p =>
      show (if parts = 12 then _ else _) = (if parts = 12 then _ else ofQ m f parts p q)
      unfold ofQ
      cases find m (13 :: 10 :: q) <;> rfl
theorem ofH_bad (m : List UInt8) (f parts : Nat) {fs : List Rq.Fl} {q : List UInt8} {c : Nat} (h : part fs = .inl c) : ofH m f parts (.ok fs q) = ([failD c], c) := by unfold ofH; simp only [h]
theorem ofH_many (m : List UInt8) (f : Nat) {fs : List Rq.Fl} {q : List UInt8} {p : Prt} (h : part fs = .inr p) : ofH m f 12 (.ok fs q) = ([failD 8], 8) := by unfold ofH; simp only [h]; rfl
theorem ofH_part (m : List UInt8) (f parts : Nat) {fs : List Rq.Fl} {q : List UInt8} {p : Prt} (h : part fs = .inr p) (hp : parts ≠ 12) : ofH m f parts (.ok fs q) = ofQ m f parts p q := by unfold ofH; simp only [h]; rw [if_neg hp]
theorem ofQ_none (m : List UInt8) (f parts : Nat) (p : Prt) {q : List UInt8} (h : find m (13 :: 10 :: q) = none) : ofQ m f parts p q = (partD p :: someD ((sent m (13 :: 10 :: q)).drop 2), 14) := by unfold ofQ; rw [h]
theorem ofQ_some (m : List UInt8) (f parts : Nat) (p : Prt) {q : List UInt8} {k : Nat} (h : find m (13 :: 10 :: q) = some k) : ofQ m f parts p q = (partD p :: someD (((13 :: 10 :: q).take k).drop 2) ++ overD :: (ofM m f (parts + 1) ((13 :: 10 :: q).drop (k + m.length))).1, (ofM m f (parts + 1) ((13 :: 10 :: q).drop (k + m.length))).2) := by unfold ofQ; rw [h]
theorem of_none {m b : List UInt8} (h : find m (13 :: 10 :: b) = none) : of m b = ([], 14) := by unfold of; rw [h]
theorem of_some {m b : List UInt8} {k : Nat} (h : find m (13 :: 10 :: b) = some k) : of m b = ofM m (b.length + 1) 0 ((13 :: 10 :: b).drop (k + m.length)) := by unfold of; rw [h]
/-- an empty line is CR and LF -/
theorem line_empty {l : List UInt8} (he : (Ln.of l).ended = true) (ht : (Ln.of l).text = []) : ∃ t, l = 13 :: 10 :: t ∧ (Ln.of l).size = 2 := by
  have key : ∀ (t : List UInt8) (i : Nat), l.drop i = t → i ≤ l.length → (Ln.go l i t).ended = true → (Ln.go l i t).text = [] → ∃ j, i ≤ j ∧ (Ln.go l i t).size = j + 2 ∧ l.take j = [] ∧ ∃ u, l.drop j = 13 :: 10 :: u := by
    intro t
    induction t with
    | nil => intro i _ _ he _; rw [Ln.go] at he; cases he
    | cons c t ih =>
      intro i hd hi he ht
      have hlt : i < l.length := by
        rcases Nat.lt_or_ge i l.length with h | h
        · exact h
        · rw [List.drop_eq_nil_of_le h] at hd; cases hd
      have hd1 : l.drop (i + 1) = t := by
        have := List.drop_eq_getElem_cons hlt
        rw [hd] at this
        injection this with h1 h2
        exact h2.symm
      unfold Ln.go at he ht ⊢
      by_cases h13 : c = 13
      · rw [if_pos h13] at he ht ⊢
        cases t with
        | nil => cases he
        | cons d u =>
          simp only at he ht ⊢
          by_cases h10 : d = 10
          · rw [if_pos h10] at ht ⊢
            exact ⟨i, Nat.le_refl _, rfl, ht, u, by rw [hd, h13, h10]⟩
          · rw [if_neg h10] at he; cases he
      · rw [if_neg h13] at he ht ⊢
        by_cases h10 : c = 10
        · rw [if_pos h10] at he; cases he
        · rw [if_neg h10] at he ht ⊢
          by_cases hv : Ch.visible c.toNat = false
          · rw [if_pos hv] at he; cases he
          · rw [if_neg hv] at he ht ⊢
            by_cases h2 : i = 200
            · rw [if_pos h2] at he; cases he
            · rw [if_neg h2] at he ht ⊢
              obtain ⟨j, h1, h3⟩ := ih (i + 1) hd1 (by omega) he ht
              exact ⟨j, by omega, h3⟩
  obtain ⟨j, _, h2, h3, u, h4⟩ := key l 0 rfl (Nat.zero_le _) he ht
  have hj : j = 0 := by
    have hl := congrArg List.length h3
    rw [List.length_take] at hl
    have h5 := congrArg List.length h4
    rw [List.length_drop] at h5
    simp at hl h5
    rcases hl with h | h
    · exact h
    · rw [h] at h5; simp at h5
  subst hj
  exact ⟨u, h4, h2⟩
/-- what FindFirst answers -/
theorem find_of {m x : List UInt8} (hm : m ≠ []) : (find m x = none → ∀ j, ¬ (j + m.length ≤ x.length ∧ (x.drop j).take m.length = m)) ∧ ∀ k, find m x = some k → (k + m.length ≤ x.length ∧ (x.drop k).take m.length = m) ∧ ∀ j, j < k → ¬ (j + m.length ≤ x.length ∧ (x.drop j).take m.length = m) := by
  have hp : 0 < m.length := List.length_pos_iff.2 hm
  have pre : ∀ l : List UInt8, m.isPrefixOf l = true ↔ (m.length ≤ l.length ∧ l.take m.length = m) := fun l => by
    rw [List.isPrefixOf_iff_prefix]
    constructor
    · intro h
      exact ⟨h.length_le, (List.prefix_iff_eq_take.1 h).symm⟩
    · intro h
      exact List.prefix_iff_eq_take.2 h.2.symm
  induction x with
  | nil =>
    refine ⟨fun _ j h => ?_, fun k h => ?_⟩
    · have := h.1; rw [List.length_nil] at this; omega
    · unfold find at h; rw [if_neg hm] at h; cases h
  | cons c t ih =>
    unfold find
    by_cases hpf : m.isPrefixOf (c :: t) = true
    · rw [if_pos hpf]
      refine ⟨(fun h => by cases h), fun k h => ?_⟩
      injection h with h; subst h
      exact ⟨by rw [Nat.zero_add]; exact (pre _).1 hpf, fun j hj => by omega⟩
    · rw [if_neg hpf]
      have h0 : ¬ (0 + m.length ≤ (c :: t).length ∧ ((c :: t).drop 0).take m.length = m) := fun h => hpf ((pre _).2 (by rw [Nat.zero_add] at h; exact h))
      have hs : ∀ j, ((j + 1) + m.length ≤ (c :: t).length ∧ ((c :: t).drop (j + 1)).take m.length = m) ↔ (j + m.length ≤ t.length ∧ (t.drop j).take m.length = m) := fun j => by
        rw [List.length_cons, List.drop_succ_cons]
        constructor
        · intro h; exact ⟨by omega, h.2⟩
        · intro h; exact ⟨by omega, h.2⟩
      refine ⟨fun h j => ?_, fun k h => ?_⟩
      · have hn : find m t = none := by
          cases hf : find m t with
          | none => rfl
          | some k => rw [hf] at h; cases h
        cases j with
        | zero => exact h0
        | succ j => rw [hs]; exact ih.1 hn j
      · cases hf : find m t with
        | none => rw [hf] at h; cases h
        | some k' =>
          rw [hf] at h
          injection h with h
          have h : k' + 1 = k := h
          subst h
          obtain ⟨a, b⟩ := ih.2 k' hf
          refine ⟨(hs k').2 a, fun j hj => ?_⟩
          cases j with
          | zero => exact h0
          | succ j => rw [hs]; exact b j (by omega)
theorem drop_at {x : List UInt8} {i : Nat} (h : i < x.length) : x.drop i = x[i] :: x.drop (i + 1) := List.drop_eq_getElem_cons h
/-- what blanks leave -/
theorem blank_skip {x : List UInt8} {i : Nat} (h : i < x.length) (hb : Pm.blank x[i] = true) : (x.drop i).dropWhile Pm.blank = (x.drop (i + 1)).dropWhile Pm.blank := by
  rw [drop_at h, List.dropWhile_cons_of_pos hb]
theorem blank_stop {x : List UInt8} {i : Nat} (h : i < x.length) (hb : Pm.blank x[i] = false) : (x.drop i).dropWhile Pm.blank = x.drop i := by
  rw [drop_at h, List.dropWhile_cons_of_neg (by rw [hb]; simp)]
end Go.Proofs.YtjpenioloeplgadGreatDoor.Fm

/- Plain laws of safe names, with no program in them. -/
namespace Go.Proofs.YtjpenioloeplgadGreatDoor.Fm

theorem tail_at {l : List UInt8} {p : Nat} (hp : p ≤ l.length) (h1 : ∀ j (hj : j < l.length), p ≤ j → stroke l[j] = false) (h2 : p = 0 ∨ ∃ h : p - 1 < l.length, 0 < p ∧ stroke l[p - 1] = true) : tail l = l.drop p := by
  have e : l.reverse = (l.drop p).reverse ++ (l.take p).reverse := by rw [← List.reverse_append, List.take_append_drop]
  have ha : ∀ c ∈ (l.drop p).reverse, (!stroke c) = true := by
    intro c hc
    rw [List.mem_reverse] at hc
    obtain ⟨j, hj, rfl⟩ := List.getElem_of_mem hc
    rw [List.length_drop] at hj
    rw [List.getElem_drop, h1 (p + j) (by omega) (by omega)]; rfl
  have hb : (l.take p).reverse.takeWhile (fun c => !stroke c) = [] := by
    rcases h2 with rfl | ⟨h, h0, hs⟩
    · rfl
    · obtain ⟨q, rfl⟩ : ∃ q, p = q + 1 := ⟨p - 1, by omega⟩
      have hq : q < l.length := by simpa using h
      have hs' : stroke l[q] = true := by simpa using hs
      rw [List.take_succ_eq_append_getElem hq, List.reverse_append]
      show (l[q] :: (l.take q).reverse).takeWhile _ = []
      rw [List.takeWhile_cons, hs']; rfl
  unfold tail
  rw [e, List.takeWhile_append_of_pos ha, hb, List.append_nil, List.reverse_reverse]
theorem tail_free (l : List UInt8) : ∀ c ∈ tail l, stroke c = false := by
  intro c hc
  unfold tail at hc
  rw [List.mem_reverse] at hc
  have := List.all_takeWhile (p := fun c => !stroke c) (l := l.reverse)
  rw [List.all_eq_true] at this
  have := this c hc
  simpa using this
theorem tail_same {l : List UInt8} (h : ∀ c ∈ l, stroke c = false) : tail l = l := by
  have := tail_at (l := l) (p := 0) (Nat.zero_le _) (fun j hj _ => h _ (List.getElem_mem hj)) (Or.inl rfl)
  rw [this]; rfl
set_option maxRecDepth 100000 in
theorem dirty_all : (List.range 256).all (fun n => ((wash n.toUInt8 == 46) == (n.toUInt8 == 46)) && (stroke (wash n.toUInt8) == stroke n.toUInt8) && !dirty (wash n.toUInt8)) = true := by decide +kernel
theorem dirty_of (c : UInt8) : (wash c == 46) = (c == 46) ∧ stroke (wash c) = stroke c ∧ dirty (wash c) = false := by
  have h := List.all_eq_true.1 dirty_all c.toNat (List.mem_range.2 c.toNat_lt)
  have e : c.toNat.toUInt8 = c := UInt8.ofNat_toNat
  rw [e] at h
  simpa [and_assoc] using h
theorem undot_wash : ∀ l : List UInt8, undot (l.map wash) = (undot l).map wash
  | [] => rfl
  | c :: t => by
    unfold undot
    rw [List.map_cons, List.dropWhile_cons, List.dropWhile_cons, (dirty_of c).1]
    split
    · exact undot_wash t
    · rfl
theorem safe_ref (l : List UInt8) : safe l = named (((undot (tail l)).take 40).map wash) := by unfold safe; rw [undot_wash, List.map_take]
theorem wash_clean {c : UInt8} (h : dirty c = false) : wash c = c := by unfold wash; rw [h]; rfl
theorem undot_head (l : List UInt8) {c : UInt8} {t : List UInt8} (h : undot l = c :: t) : c ≠ 46 := by
  unfold undot at h
  have := List.head_dropWhile_not (fun c : UInt8 => c == 46) (l := l) (by rw [h]; simp)
  simp only [h, List.head_cons] at this
  simpa using this
/-- a name leads nowhere else -/
structure Safe (n : List UInt8) : Prop where
  some_ : n ≠ []
  short : n.length ≤ 40
  clean : ∀ c ∈ n, dirty c = false ∧ stroke c = false
  dot : n.head? ≠ some 46
theorem safe_safe (l : List UInt8) : Safe (safe l) := by
  unfold safe named
  have hx : ∀ c ∈ undot ((tail l).map wash), dirty c = false ∧ stroke c = false := fun c hc => by
    have hc := (List.dropWhile_suffix _).subset hc
    obtain ⟨d, hd, rfl⟩ := List.mem_map.1 hc
    exact ⟨(dirty_of d).2.2, by rw [(dirty_of d).2.1]; exact tail_free l d hd⟩
  have hh := @undot_head ((tail l).map wash)
  generalize undot ((tail l).map wash) = u at hx hh
  split
  · exact ⟨by decide, by decide, by decide, by decide⟩
  · rename_i h
    refine ⟨h, by rw [List.length_take]; omega, fun c hc => hx c (List.take_subset 40 u hc), ?_⟩
    cases u with
    | nil => exact absurd rfl h
    | cons c t =>
      show some c ≠ some 46
      intro e; injection e with e; exact hh rfl e
theorem safe_again {n : List UInt8} (h : Safe n) : safe n = n := by
  unfold safe
  have h1 := tail_same (fun c hc => (h.clean c hc).2)
  have h2 : n.map wash = n := by
    conv => rhs; rw [← List.map_id n]
    exact List.map_congr_left (fun c hc => wash_clean (h.clean c hc).1)
  have h3 : undot n = n := by
    unfold undot
    cases n with
    | nil => rfl
    | cons c t =>
      rw [List.dropWhile_cons, if_neg]
      intro e
      exact h.dot (by rw [List.head?_cons]; exact congrArg some (by simpa using e))
  rw [h1, h2, h3, List.take_of_length_le h.short]
  unfold named
  rw [if_neg h.some_]
theorem file_safe {ps : List Pm.Par} {f : List UInt8} (h : file ps = some f) : f = [] ∨ Safe f := by
  unfold file at h
  split at h
  · obtain ⟨x, _, rfl⟩ := Option.map_eq_some_iff.1 h; exact Or.inr (safe_safe x)
  · split at h
    · injection h with h; subst h; exact Or.inr (safe_safe _)
    · injection h with h; subst h; exact Or.inl rfl
theorem part_safe {fs : List Rq.Fl} {p : Prt} (h : part fs = .inr p) : p.file = [] ∨ Safe p.file := by
  unfold part partBy at h
  split at h
  · cases h
  · split at h
    · cases h
    · split at h
      · cases h
      · split at h
        · cases h
        · split at h
          · cases h
          · rename_i f hf
            split at h
            · cases h
            · injection h with h; subst h
              exact file_safe hf
/-- bytes of which the first k are washed -/
def washTo (k : Nat) (l : List UInt8) : List UInt8 := (l.take k).map wash ++ l.drop k
theorem washTo_length (k : Nat) (l : List UInt8) : (washTo k l).length = l.length := by
  unfold washTo; rw [List.length_append, List.length_map, ← List.length_append, List.take_append_drop]
theorem washTo_zero (l : List UInt8) : washTo 0 l = l := rfl
theorem washTo_all (l : List UInt8) : washTo l.length l = l.map wash := by unfold washTo; rw [List.take_length, List.drop_length, List.append_nil]
theorem washTo_at {k : Nat} {l : List UInt8} (h : k < l.length) : (washTo k l)[k]'(by rw [washTo_length]; exact h) = l[k] := by
  unfold washTo
  rw [List.getElem_append_right (by rw [List.length_map, List.length_take]; omega)]
  simp [List.getElem_drop, Nat.min_eq_left (Nat.le_of_lt h)]
theorem washTo_succ {k : Nat} {l : List UInt8} (h : k < l.length) : washTo (k + 1) l = (washTo k l).set k (wash l[k]) := by
  unfold washTo
  rw [List.take_succ_eq_append_getElem h, List.map_append, List.drop_eq_getElem_cons h, List.set_append_right _ _ (by rw [List.length_map, List.length_take]; omega)]
  rw [List.length_map, List.length_take, Nat.min_eq_left (Nat.le_of_lt h), Nat.sub_self]
  simp
  rw [List.drop_eq_getElem_cons h]
  rfl
theorem washTo_same {k : Nat} {l : List UInt8} (h : k < l.length) (hd : dirty l[k] = false) : washTo (k + 1) l = washTo k l := by
  unfold washTo
  rw [List.take_succ_eq_append_getElem h, List.map_append, List.drop_eq_getElem_cons h]
  simp [wash_clean hd]
end Go.Proofs.YtjpenioloeplgadGreatDoor.Fm

/- Plain laws of forms that are written, with no program in them: what is written, and there and back. -/
namespace Go.Proofs.YtjpenioloeplgadGreatDoor.Pk
open Go.Proofs.YtjpenioloeplgadGreatDoor.Fm (Prt find isMark safe nName nFname nForm nDisp nType partD someD overD finD)

/-- a part, and its bytes -/
abbrev P := Prt × List UInt8
def clash (b bs : List UInt8) : Bool := (find (Fm.mark b) (13 :: 10 :: bs)).isSome
def disp (p : Prt) : List Pm.Par := (nName, p.name) :: if p.file = [] then [] else [(nFname, p.file)]
def cDisp : List UInt8 := [67, 111, 110, 116, 101, 110, 116, 45, 68, 105, 115, 112, 111, 115, 105, 116, 105, 111, 110]
def cType : List UInt8 := [67, 111, 110, 116, 101, 110, 116, 45, 84, 121, 112, 101]
def fls (p : Prt) (v : List UInt8) : List Rq.Fl := (cDisp, v) :: if p.type = [] then [] else [(cType, p.type)]
/-- a part's fields, a line each -/
def head (p : Prt) : Nat ⊕ List UInt8 :=
  match Pm.text nForm (disp p) with
  | .inl c => .inl c
  | .inr v => Rq.lines (fls p v)
/-- why a part can't be written, whatever its fields' texts are -/
def fault (b : List UInt8) (p : P) : Nat := if clash b p.2 = true then 15 else if p.1.file ≠ [] ∧ safe p.1.file ≠ p.1.file then 6 else 0
def wrap (b h bs : List UInt8) : List UInt8 := 45 :: 45 :: (b ++ 13 :: 10 :: (h ++ 13 :: 10 :: (bs ++ [13, 10])))
def one (b : List UInt8) (p : P) : Nat ⊕ List UInt8 :=
  if fault b p ≠ 0 then .inl (fault b p) else match head p.1 with
    | .inl c => .inl c
    | .inr h => .inr (wrap b h p.2)
def all (b : List UInt8) : List UInt8 → List P → Nat ⊕ List UInt8
  | acc, [] => .inr (acc ++ 45 :: 45 :: (b ++ [45, 45, 13, 10]))
  | acc, p :: t => match one b p with
    | .inl c => .inl c
    | .inr x => all b (acc ++ x) t
/-- a form's text, or a code -/
def text (b : List UInt8) (l : List P) : Nat ⊕ List UInt8 := if isMark b = false then .inl 5 else if 12 < l.length then .inl 8 else all b [] l

/-- a boundary is visible -/
theorem mark_seen {b : List UInt8} (h : isMark b = true) : ∀ c ∈ b, c ≠ 13 := by
  unfold isMark at h
  simp only [Bool.and_eq_true] at h
  have hv := h.1.2
  unfold Ch.isVisible at hv
  rw [List.all_eq_true] at hv
  intro c hc e
  have := hv c hc
  rw [e] at this
  exact absurd this (by decide)
/-- what stands behind a mark -/
def behind (b : List UInt8) : List (Prt × List UInt8 × List UInt8) → List UInt8
  | [] => [45, 45, 13, 10]
  | (_, h, bs) :: t => 13 :: 10 :: (h ++ 13 :: 10 :: (bs ++ (Fm.mark b ++ behind b t)))
/-- parts that are written, each with its fields' text -/
def Wrote (b : List UInt8) (q : Prt × List UInt8 × List UInt8) : Prop := fault b (q.1, q.2.2) = 0 ∧ head q.1 = .inr q.2.1
theorem all_wrote (b : List UInt8) : ∀ (l : List P) (acc t : List UInt8), all b acc l = .inr t → ∃ qs : List (Prt × List UInt8 × List UInt8), qs.map (fun q => (q.1, q.2.2)) = l ∧ (∀ q ∈ qs, Wrote b q) ∧ t = acc ++ 45 :: 45 :: (b ++ behind b qs)
  | [], acc, t, h => by
    injection h with h
    exact ⟨[], rfl, (fun q hq => by cases hq), h.symm⟩
  | p :: l, acc, t, h => by
    rw [all] at h
    cases ho : one b p with
    | inl c => rw [ho] at h; cases h
    | inr x =>
      rw [ho] at h
      obtain ⟨qs, h1, h2, h3⟩ := all_wrote b l _ t h
      unfold one at ho
      split at ho
      · cases ho
      · rename_i hf
        split at ho
        · cases ho
        · rename_i hd hh
          injection ho with ho
          refine ⟨(p.1, hd, p.2) :: qs, by rw [List.map_cons, h1], fun q hq => ?_, ?_⟩
          · rcases List.mem_cons.1 hq with e | e
            · subst e; exact ⟨by simpa using hf, hh⟩
            · exact h2 q e
          · rw [h3, ← ho]
            show acc ++ wrap b hd p.2 ++ _ = acc ++ 45 :: 45 :: (b ++ 13 :: 10 :: (hd ++ 13 :: 10 :: (p.2 ++ (Fm.mark b ++ behind b qs))))
            unfold wrap
            simp [Fm.mark]
theorem text_wrote {b : List UInt8} {l : List P} {t : List UInt8} (h : text b l = .inr t) : isMark b = true ∧ l.length ≤ 12 ∧ ∃ qs : List (Prt × List UInt8 × List UInt8), qs.map (fun q => (q.1, q.2.2)) = l ∧ (∀ q ∈ qs, Wrote b q) ∧ 13 :: 10 :: t = Fm.mark b ++ behind b qs := by
  unfold text at h
  split at h
  · cases h
  · rename_i hm
    split at h
    · cases h
    · rename_i hl
      obtain ⟨qs, h1, h2, h3⟩ := all_wrote b l [] t h
      exact ⟨by simpa using hm, by omega, qs, h1, h2, by rw [h3]; simp [Fm.mark]⟩
/-- the mark stands behind bytes that hold none -/
theorem find_behind {b bs r : List UInt8} (hb : ∀ c ∈ b, c ≠ 13) (hc : clash b bs = false) : find (Fm.mark b) (13 :: 10 :: (bs ++ (Fm.mark b ++ r))) = some (bs.length + 2) := by
  have hm : Fm.mark b ≠ [] := by simp [Fm.mark]
  have hlen : (Fm.mark b).length = b.length + 4 := by simp [Fm.mark]
  have hnone : find (Fm.mark b) (13 :: 10 :: bs) = none := by
    unfold clash at hc
    cases h : find (Fm.mark b) (13 :: 10 :: bs) with
    | none => rfl
    | some k => rw [h] at hc; cases hc
  have hfree := (Fm.find_of (x := 13 :: 10 :: bs) hm).1 hnone
  have hX : (13 :: 10 :: (bs ++ (Fm.mark b ++ r)) : List UInt8) = (13 :: 10 :: bs) ++ (Fm.mark b ++ r) := by simp
  rw [hX]
  have hxl : (13 :: 10 :: bs : List UInt8).length = bs.length + 2 := rfl
  generalize hx : (13 :: 10 :: bs : List UInt8) = x at *
  have hst : ((bs.length + 2) + (Fm.mark b).length ≤ (x ++ (Fm.mark b ++ r)).length ∧ ((x ++ (Fm.mark b ++ r)).drop (bs.length + 2)).take (Fm.mark b).length = Fm.mark b) := by
    refine ⟨by rw [List.length_append, List.length_append, hxl]; omega, ?_⟩
    rw [← hxl, List.drop_left, List.take_left]
  have hno : ∀ j, j < bs.length + 2 → ¬ (j + (Fm.mark b).length ≤ (x ++ (Fm.mark b ++ r)).length ∧ ((x ++ (Fm.mark b ++ r)).drop j).take (Fm.mark b).length = Fm.mark b) := fun j hj h => by
    rcases Nat.lt_or_ge x.length (j + (Fm.mark b).length) with hlt | hge
    · have hi : bs.length + 2 - j < (Fm.mark b).length := by omega
      have e1 : (Fm.mark b)[bs.length + 2 - j]? = some 13 := by
        rw [← h.2, List.getElem?_take, if_pos hi, List.getElem?_drop, show j + (bs.length + 2 - j) = x.length + 0 by omega, List.getElem?_append_right (by omega), show x.length + 0 - x.length = 0 by omega]
        rfl
      obtain ⟨i, hi2⟩ : ∃ i, bs.length + 2 - j = i + 1 := ⟨bs.length + 2 - j - 1, by omega⟩
      rw [hi2] at e1
      have e2 : (10 :: 45 :: 45 :: b : List UInt8)[i]? = some 13 := e1
      have hmem := List.mem_of_getElem? e2
      simp only [List.mem_cons] at hmem
      rcases hmem with h | h | h | h
      · exact absurd h (by decide)
      · exact absurd h (by decide)
      · exact absurd h (by decide)
      · exact hb 13 h rfl
    · refine hfree j ⟨hge, ?_⟩
      have := h.2
      rw [List.drop_append_of_le_length (by omega), List.take_append_of_le_length (by rw [List.length_drop]; omega)] at this
      exact this
  obtain ⟨f1, f2⟩ := Fm.find_of (x := x ++ (Fm.mark b ++ r)) hm
  cases hf : find (Fm.mark b) (x ++ (Fm.mark b ++ r)) with
  | none => exact absurd hst (f1 hf _)
  | some k =>
    obtain ⟨g1, g2⟩ := f2 k hf
    congr 1
    rcases Nat.lt_trichotomy k (bs.length + 2) with h | h | h
    · exact absurd g1 (hno k h)
    · exact h
    · exact absurd hst (g2 _ h)
/-- a part's fields say what it is -/
theorem part_fls {p : Prt} {v : List UInt8} (hv : Pm.text nForm (disp p) = .inr v) (hs : ¬ (p.file ≠ [] ∧ safe p.file ≠ p.file)) : Fm.part (fls p v) = .inr p := by
  obtain ⟨hf, rfl⟩ := Pm.fine_text hv
  have hm := Pm.media_text hf
  have l1 : (Ch.lower cDisp == nDisp) = true := by decide
  have l2 : (Ch.lower cDisp == nType) = false := by decide
  have l3 : (Ch.lower cType == nDisp) = false := by decide
  have l4 : (Ch.lower cType == nType) = true := by decide
  have hd : Fm.one (Rq.vals (fls p (nForm ++ Pm.texts (disp p))) nDisp) = (nForm ++ Pm.texts (disp p), 0) := by
    unfold fls Rq.vals
    split
    · simp [l1, Fm.one]
    · simp [l1, l3, Fm.one]
  have ht : (Fm.one (Rq.vals (fls p (nForm ++ Pm.texts (disp p))) nType)).1 = p.type ∧ (Fm.one (Rq.vals (fls p (nForm ++ Pm.texts (disp p))) nType)).2 ≠ 9 := by
    unfold fls Rq.vals
    split
    · rename_i h; simp [l2, Fm.one, h]
    · simp [l2, l4, Fm.one]
  have g1 : Fm.get nName (disp p) = some p.name := by unfold Fm.get disp; simp
  have gf : (nName == nFname) = false := by decide
  have gs : (nName == Fm.nFstar) = false := by decide
  have gt : (nFname == Fm.nFstar) = false := by decide
  have g2 : Fm.file (disp p) = some p.file := by
    unfold Fm.file Fm.get disp
    by_cases h : p.file = []
    · simp [h, gf, gs]
    · have hsf : safe p.file = p.file := by
        rcases Classical.em (safe p.file = p.file) with e | e
        · exact e
        · exact absurd ⟨h, e⟩ hs
      simp [h, gf, gs, gt, hsf]
  unfold Fm.part Fm.partBy
  rw [hd]
  rw [if_neg (by simp)]
  simp only [hm, g1, g2]
  rw [if_neg (by simp), if_neg ht.2, ht.1]
theorem fls_few (p : Prt) (v : List UInt8) : (fls p v).length ≤ 2 := by unfold fls; split <;> simp
/-- events of parts -/
def evs : List P → List EvD
  | [] => [finD]
  | p :: t => partD p.1 :: (someD p.2 ++ overD :: evs t)
/-- what was written is read as it was -/
theorem ofM_back {b : List UInt8} (hb : ∀ c ∈ b, c ≠ 13) : ∀ (qs : List (Prt × List UInt8 × List UInt8)) (f parts : Nat), (∀ q ∈ qs, Wrote b q) → qs.length + parts ≤ 12 → qs.length < f → Fm.ofM (Fm.mark b) f parts (behind b qs) = (evs (qs.map fun q => (q.1, q.2.2)), 0)
  | _, 0, _, _, _, hf => by omega
  | [], f + 1, parts, _, _, _ => Fm.ofM_end _ _ _ _
  | (p, h, bs) :: qs, f + 1, parts, hq, hl, hf => by
    have hw := hq (p, h, bs) (by simp)
    obtain ⟨hfa, hhd⟩ := hw
    have hcl : clash b bs = false := by
      unfold fault at hfa
      cases hc : clash b bs with
      | false => rfl
      | true => rw [if_pos hc] at hfa; cases hfa
    have hsf : ¬ (p.file ≠ [] ∧ safe p.file ≠ p.file) := fun e => by
      unfold fault at hfa
      simp only [hcl] at hfa
      rw [if_neg (by simp), if_pos e] at hfa
      cases hfa
    unfold head at hhd
    cases hv : Pm.text nForm (disp p) with
    | inl c => rw [hv] at hhd; cases hhd
    | inr v =>
      rw [hv] at hhd
      have hhd : Rq.lines (fls p v) = .inr h := hhd
      have hpt := part_fls hv hsf
      simp only [List.length_cons] at hl hf
      rw [behind]
      rw [Fm.ofM_head (Fm.mark b) f parts (t := h ++ 13 :: 10 :: (bs ++ (Fm.mark b ++ behind b qs))) (by simp) (by simp) (by simp [Pm.blank])]
      have hlen : (h ++ 13 :: 10 :: (bs ++ (Fm.mark b ++ behind b qs))).length + 1 = ((h ++ 13 :: 10 :: (bs ++ (Fm.mark b ++ behind b qs))).length - (fls p v).length) + 1 + (fls p v).length := by
        have h1 := fls_few p v
        have : 2 ≤ (h ++ 13 :: 10 :: (bs ++ (Fm.mark b ++ behind b qs))).length := by simp; omega
        omega
      rw [hlen, Rq.flds_lines (fls p v) [] _ _ _ hhd (by have := fls_few p v; simp; omega)]
      have hl2 : Ln.of (13 :: 10 :: (bs ++ (Fm.mark b ++ behind b qs))) = ⟨[], 2, true, 0⟩ := Ck.line_of [] _ (by simp) (by simp)
      rw [Rq.flds_end (by rw [hl2]) (by rw [hl2]) (by rw [hl2]), hl2]
      show Fm.ofH (Fm.mark b) f parts (.ok (fls p v) (bs ++ (Fm.mark b ++ behind b qs))) = _
      rw [Fm.ofH_part (Fm.mark b) f parts hpt (by omega), Fm.ofQ_some (Fm.mark b) f parts p (find_behind hb hcl)]
      have e1 : ((13 :: 10 :: (bs ++ (Fm.mark b ++ behind b qs))).take (bs.length + 2)).drop 2 = bs := by
        show (bs ++ _).take bs.length = bs
        exact List.take_left
      have e2 : (13 :: 10 :: (bs ++ (Fm.mark b ++ behind b qs))).drop (bs.length + 2 + (Fm.mark b).length) = behind b qs := by
        rw [show bs.length + 2 + (Fm.mark b).length = (bs.length + (Fm.mark b).length) + 2 by omega]
        show (bs ++ (Fm.mark b ++ behind b qs)).drop (bs.length + (Fm.mark b).length) = _
        rw [← List.append_assoc, ← List.length_append, List.drop_left]
      rw [e1, e2, ofM_back hb qs f (parts + 1) (fun q h => hq q (List.mem_cons_of_mem _ h)) (by omega) (by omega)]
      rfl
theorem behind_long (b : List UInt8) : ∀ qs : List (Prt × List UInt8 × List UInt8), qs.length ≤ (behind b qs).length
  | [] => Nat.zero_le _
  | (p, h, bs) :: qs => by
    have := behind_long b qs
    rw [behind]
    simp only [List.length_cons, List.length_append]
    omega
/-- THERE AND BACK -/
theorem of_back {b : List UInt8} {l : List P} {t : List UInt8} (h : text b l = .inr t) : Fm.of (Fm.mark b) t = (evs l, 0) := by
  obtain ⟨hm, hl, qs, h1, h2, h3⟩ := text_wrote h
  have hb := mark_seen hm
  have hne : Fm.mark b ≠ [] := by simp [Fm.mark]
  have hfd : find (Fm.mark b) (13 :: 10 :: t) = some 0 := by
    rw [h3]
    have : (Fm.mark b ++ behind b qs) = 13 :: (10 :: 45 :: 45 :: b ++ behind b qs) := rfl
    rw [this, find, if_pos]
    rw [List.isPrefixOf_iff_prefix]
    exact ⟨behind b qs, rfl⟩
  rw [Fm.of_some hfd, h3, Nat.zero_add, List.drop_left, ofM_back hb qs (t.length + 1) 0 h2 ?_ ?_, h1]
  · have := congrArg List.length h1
    rw [List.length_map] at this
    omega
  · have e := congrArg List.length h3
    have g := behind_long b qs
    simp only [List.length_cons, List.length_append, Fm.mark] at e
    omega
end Go.Proofs.YtjpenioloeplgadGreatDoor.Pk

/- Plain laws of forms that are written: the parts that a reader gathers of what was written. -/
namespace Go.Proofs.YtjpenioloeplgadGreatDoor.Pk
open Go.Proofs.YtjpenioloeplgadGreatDoor.Fm (Pt partD someD overD finD laid gath)

/-- a part as memory holds it -/
def pt (p : P) : Pt := ⟨⟨p.1.name.toArray⟩, ⟨p.1.file.toArray⟩, ⟨p.1.type.toArray⟩, p.2⟩
/-- one event more: bytes are put behind bytes -/
def laidA (acc : List Pt) (e : EvD) : List Pt := if e.kind = 5 then acc ++ [⟨e.pname, e.pfile, e.ptype, e.pbytes⟩] else if e.kind = 2 then acc.dropLast ++ (acc.getLast?.map fun p => { p with bytes := p.bytes ++ e.bytes }).toList else acc
def gathA (l : List EvD) : List Pt := l.foldl laidA []
theorem gathA_snoc (l : List EvD) (e : EvD) : gathA (l ++ [e]) = laidA (gathA l) e := by unfold gathA; rw [List.foldl_append]; rfl
theorem laidA_two (G : List Pt) {y x : EvD} (hy : y.kind = 2) (hx : x.kind = 2) : laidA (laidA G y) x = laidA G (bodyD (y.bytes ++ x.bytes)) := by
  have hb : (bodyD (y.bytes ++ x.bytes)).kind = 2 := rfl
  have n5 : ¬ (2 : Int) = 5 := by decide
  unfold laidA
  rw [hy, hx, hb, if_neg n5, if_neg n5, if_neg n5, if_pos rfl, if_pos rfl, if_pos rfl]
  rcases List.eq_nil_or_concat G with rfl | ⟨q, p, rfl⟩
  · rfl
  · rw [List.concat_eq_append]
    simp [bodyD]
theorem gathA_add (O : List EvD) (x : EvD) : gathA (addD O x) = laidA (gathA O) x := by
  by_cases h : x.kind = 2 ∧ tailD O = true
  · rcases List.eq_nil_or_concat O with rfl | ⟨q, y, rfl⟩
    · exact absurd h.2 (by decide)
    · rw [List.concat_eq_append] at h ⊢
      have hy : y.kind = 2 := by have := h.2; rw [tailD_snoc] at this; simpa using this
      rw [addD_merge _ _ _ hy h.1, gathA_snoc, gathA_snoc, laidA_two _ hy h.1]
  · rw [addD_plain _ _ (fun e => by
      cases ht : tailD O with
      | false => rfl
      | true => exact absurd ⟨e, ht⟩ h), gathA_snoc]
theorem gathA_foldl : ∀ (l : List EvD) (O : List EvD), gathA (l.foldl addD O) = l.foldl laidA (gathA O)
  | [], _ => rfl
  | x :: l, O => by rw [List.foldl_cons, List.foldl_cons, gathA_foldl l, gathA_add]
theorem gathA_join (l : List EvD) : gathA (joinD l) = gathA l := by unfold joinD; rw [gathA_foldl]; rfl
theorem laid_part (acc : List Pt) (p : P) : (partD p.1 :: someD p.2).foldl laid acc = acc ++ [pt p] ∧ (partD p.1 :: someD p.2).foldl laidA acc = acc ++ [pt p] := by
  have n5 : ¬ (2 : Int) = 5 := by decide
  have k5 : (partD p.1).kind = 5 := rfl
  by_cases h : p.2 = []
  · unfold someD
    rw [if_pos h]
    refine ⟨?_, ?_⟩
    · show laid acc (partD p.1) = _
      unfold laid pt; rw [k5, if_pos rfl, h]; rfl
    · show laidA acc (partD p.1) = _
      unfold laidA pt; rw [k5, if_pos rfl, h]; rfl
  · unfold someD
    rw [if_neg h]
    have kb : (bodyD p.2).kind = 2 := rfl
    refine ⟨?_, ?_⟩
    · show laid (laid acc (partD p.1)) (bodyD p.2) = _
      unfold laid pt; rw [k5, kb, if_neg n5, if_pos rfl, if_pos rfl]; simp [partD, bodyD]
    · show laidA (laidA acc (partD p.1)) (bodyD p.2) = _
      unfold laidA pt; rw [k5, kb, if_neg n5, if_pos rfl, if_pos rfl]; simp [partD, bodyD]
theorem foldl_evs : ∀ (l : List P) (acc : List Pt), (evs l).foldl laid acc = acc ++ l.map pt ∧ (evs l).foldl laidA acc = acc ++ l.map pt
  | [], acc => by
    have k3 : finD.kind = 3 := rfl
    refine ⟨?_, ?_⟩
    · show laid acc finD = _
      unfold laid; rw [k3, if_neg (by decide), if_neg (by decide)]; simp
    · show laidA acc finD = _
      unfold laidA; rw [k3, if_neg (by decide), if_neg (by decide)]; simp
  | p :: l, acc => by
    have k6 : overD.kind = 6 := rfl
    have e : evs (p :: l) = (partD p.1 :: someD p.2) ++ (overD :: evs l) := by rw [evs]; rfl
    rw [e, List.foldl_append, List.foldl_append, (laid_part acc p).1, (laid_part acc p).2, List.foldl_cons, List.foldl_cons]
    have e1 : laid (acc ++ [pt p]) overD = acc ++ [pt p] := by unfold laid; rw [k6, if_neg (by decide), if_neg (by decide)]
    have e2 : laidA (acc ++ [pt p]) overD = acc ++ [pt p] := by unfold laidA; rw [k6, if_neg (by decide), if_neg (by decide)]
    rw [e1, e2, (foldl_evs l _).1, (foldl_evs l _).2]
    simp
/-- what a reader tells of what was written, and what is gathered of it, however it comes -/
theorem read_back {b : List UInt8} {l : List P} {t : List UInt8} (h : text b l = .inr t) :
    Fm.isMark b = true ∧ Fm.close (Fm.fold (Fm.mark b) Fm.start t) = 0 ∧ gath (joinD (Fm.outs (Fm.mark b) Fm.start t)) = l.map pt ∧ ∀ ps : List (List UInt8), ps.flatten = t → gathA (Fm.fed (Fm.mark b) Fm.start ps) = l.map pt := by
  obtain ⟨hm, _⟩ := text_wrote h
  have hof := of_back h
  obtain ⟨h1, h2⟩ : b ≠ [] ∧ b.length ≤ 70 := by
    unfold Fm.isMark at hm
    simp only [Bool.and_eq_true, decide_eq_true_eq] at hm
    exact ⟨fun e => by rw [e] at hm; simp at hm, hm.1.1.2⟩
  obtain ⟨m2, m5, _⟩ := Fm.mark_facts b h1 h2
  obtain ⟨r1, r2⟩ := Fm.of_run m2 m5 t
  have hj : joinD (Fm.outs (Fm.mark b) Fm.start t) = evs l := by
    rw [← (Fm.flush_tells _ (Fm.clean_outs _ _ _)).1, r1, hof]
  refine ⟨hm, by rw [r2, hof], ?_, fun ps hps => ?_⟩
  · rw [hj]; unfold gath; rw [(foldl_evs l []).1]; rfl
  · rw [← gathA_join, Fm.join_fed, hps, hj]; unfold gathA; rw [(foldl_evs l []).2]; rfl
end Go.Proofs.YtjpenioloeplgadGreatDoor.Pk
