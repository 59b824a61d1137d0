/- Small texts, one behind the other: PlainRB, PlainRC, PlainRD, PlainRE, PlainRF, PlainRN. -/
import Derived.Test.YtjpenioloeplgadGreatDoorPlainRA
import Derived.Test.YtjpenioloeplgadGreatDoorPk2
/- Plain laws of requests of a stream: what a reader's bytes bring, joined, a piece at a time. -/
namespace Go.Proofs.YtjpenioloeplgadGreatDoor.Rq

/-- does it not begin with a body? -/
def Apart : List Ev → Prop
  | .body _ :: _ => False
  | _ => True
theorem join_body {a : List UInt8} {r : List Ev} (h : Apart (join r)) : join (.body a :: r) = .body a :: join r := by
  rw [join]
  cases hj : join r with
  | nil => rfl
  | cons e q => cases e with
    | body b => rw [hj] at h; exact absurd h (fun h => h)
    | head h => rfl
    | fin => rfl
    | fail c => rfl
theorem join_more {a b : List UInt8} {r : List Ev} : join (.body a :: .body b :: r) = join (.body (a ++ b) :: r) := by
  have e : ∀ x : List UInt8, join (.body x :: r) = match join r with | .body y :: q => .body (x ++ y) :: q | q => .body x :: q := fun x => by
    rw [join]
    cases join r with
    | nil => rfl
    | cons e q => cases e <;> rfl
  rw [join, e b, e (a ++ b)]
  cases hj : join r with
  | nil => rfl
  | cons e q => cases e with
    | body y => simp
    | head h => rfl
    | fin => rfl
    | fail c => rfl
/-- bytes, one event each -/
def ones (l : List UInt8) : List Ev := l.map fun c => .body [c]
theorem join_ones_body : ∀ (l : List UInt8) (a : List UInt8) (r : List Ev), join (.body a :: (ones l ++ r)) = join (.body (a ++ l) :: r)
  | [], a, r => by simp [ones]
  | c :: t, a, r => by
    have := join_ones_body t (a ++ [c]) r
    rw [List.append_assoc] at this
    rw [show ones (c :: t) ++ r = .body [c] :: (ones t ++ r) from rfl, join_more, this]
    rfl
/-- joined, they are one -/
theorem join_ones (l : List UInt8) (r : List Ev) (h : Apart (join r)) : join (ones l ++ r) = some_ l ++ join r := by
  cases l with
  | nil => rfl
  | cons c t =>
    rw [show ones (c :: t) ++ r = .body [c] :: (ones t ++ r) from rfl, join_ones_body, join_body h]
    rfl
theorem apart_fin (r : List Ev) : Apart (join (.fin :: r)) := trivial
theorem apart_fail (c : Nat) (r : List Ev) : Apart (join (.fail c :: r)) := trivial
theorem apart_nil : Apart (join []) := trivial
theorem join_head (h : Hd) (r : List Ev) : join (.head h :: r) = .head h :: join r := by rw [join]
theorem join_fin (r : List Ev) : join (.fin :: r) = .fin :: join r := by rw [join]
theorem join_fail (c : Nat) (r : List Ev) : join (.fail c :: r) = .fail c :: join r := by rw [join]

/-- behind a code nothing comes -/
theorem dead_run : ∀ (l : List UInt8) (s : St), s.ph = 4 → outs s l = [] ∧ fold s l = s
  | [], s, _ => ⟨rfl, rfl⟩
  | c :: t, s, h => by
    have e : next s c = (s, []) := by unfold next; rw [if_pos h]
    have ih := dead_run t s h
    constructor
    · show (next s c).2 ++ outs (next s c).1 t = []
      rw [e]; exact ih.1
    · show fold (next s c).1 t = s
      rw [e]; exact ih.2
/-- at a line -/
structure AtLine (s : St) : Prop where
  ph : s.ph = 0 ∨ s.ph = 1
  ln : s.ln = Ln.start
theorem ln_same {s : St} (h : s.ln = Ln.start) : { s with ln := Ln.start } = s := by
  cases s; simp only at h; subst h; rfl
/-- the bytes of a line bring nothing -/
theorem in_line {s : St} (h : AtLine s) (l : List UInt8) : ∀ j, j ≤ l.length → ((Ln.of l).size = 0 ∨ j < (Ln.of l).size) →
    outs s (l.take j) = [] ∧ fold s (l.take j) = { s with ln := Ln.fold Ln.start (l.take j) }
  | 0, _, _ => ⟨rfl, (ln_same h.ln).symm⟩
  | j + 1, hj, hs => by
    have hlt : j < l.length := by omega
    obtain ⟨h1, h2⟩ := in_line h l j (by omega) (by omega)
    obtain ⟨hE, hC⟩ := Ln.fold_quiet l j hlt (by omega)
    have hp := h.ph
    have e : next { s with ln := Ln.fold Ln.start (l.take j) } l[j] = ({ s with ln := Ln.next (Ln.fold Ln.start (l.take j)) l[j] }, []) := by
      unfold next
      rw [if_neg (by show ¬ s.ph = 4; omega), if_neg (by show ¬ s.ph = 2; omega), if_neg (by show ¬ s.ph = 3; omega), if_neg (fun e => e hC), if_neg (by rw [hE]; simp)]
    rw [List.take_succ_eq_append_getElem hlt, outs_append, fold_append, h1, h2, Ln.fold_snoc]
    constructor
    · show [] ++ ((next { s with ln := Ln.fold Ln.start (l.take j) } l[j]).2 ++ []) = []
      rw [e]; rfl
    · show (next { s with ln := Ln.fold Ln.start (l.take j) } l[j]).1 = _
      rw [e]
/-- no line yet -/
theorem line_open {s : St} (h : AtLine s) (l : List UInt8) (ho : (Ln.of l).size = 0) : outs s l = [] ∧ fold s l = { s with ln := Ln.fold Ln.start l } := by
  have := in_line h l l.length (Nat.le_refl _) (Or.inl ho)
  rwa [List.take_length] at this
/-- a line, or a code -/
theorem line_told {s : St} (h : AtLine s) (l : List UInt8) (ho : 0 < (Ln.of l).size) :
    ((Ln.of l).code ≠ 0 → outs s l = [.fail (Ln.of l).code] ∧ (fold s l).ph = 4) ∧
    ((Ln.of l).code = 0 → outs s l = (line s (Ln.of l).text).2 ++ outs (line s (Ln.of l).text).1 (l.drop (Ln.of l).size) ∧ fold s l = fold (line s (Ln.of l).text).1 (l.drop (Ln.of l).size)) := by
  obtain ⟨j, hj⟩ : ∃ j, (Ln.of l).size = j + 1 := ⟨(Ln.of l).size - 1, by omega⟩
  have hle := Ln.of_le l
  have hlt : j < l.length := by omega
  have hp := h.ph
  obtain ⟨h1, h2⟩ := in_line h l j (by omega) (Or.inr (by omega))
  obtain ⟨hE, hC, hT⟩ := Ln.fold_last l j hlt hj.symm
  have hn : next { s with ln := Ln.fold Ln.start (l.take j) } l[j] = if (Ln.of l).code ≠ 0 then (dead { s with ln := Ln.fold Ln.start (l.take j) }, [.fail (Ln.of l).code]) else line s (Ln.of l).text := by
    unfold next
    rw [if_neg (by show ¬ s.ph = 4; omega), if_neg (by show ¬ s.ph = 2; omega), if_neg (by show ¬ s.ph = 3; omega)]
    show (if (Ln.next (Ln.fold Ln.start (l.take j)) l[j]).code ≠ 0 then _ else if Ln.ends (Ln.fold Ln.start (l.take j)) l[j] = true then line { s with ln := Ln.start } (Ln.text (Ln.fold Ln.start (l.take j)) l[j]) else _) = _
    rw [hC, hE, hT, ln_same h.ln]
    by_cases hc : (Ln.of l).code = 0
    · have hcn : ¬ (Ln.of l).code ≠ 0 := fun e => e hc
      simp only [if_neg hcn]
      rcases Ln.of_kind l with hk | hk | hk
      · omega
      · rw [if_pos hk.2]
      · exact absurd hc hk.1
    · simp only [if_pos hc]
  have hsplit : l = l.take j ++ l[j] :: l.drop (j + 1) := by
    rw [← List.drop_eq_getElem_cons hlt, List.take_append_drop]
  have ho2 : outs s l = (next { s with ln := Ln.fold Ln.start (l.take j) } l[j]).2 ++ outs (next { s with ln := Ln.fold Ln.start (l.take j) } l[j]).1 (l.drop (j + 1)) := by
    conv => lhs; rw [hsplit, outs_append, h1, h2]
    rfl
  have hf2 : fold s l = fold (next { s with ln := Ln.fold Ln.start (l.take j) } l[j]).1 (l.drop (j + 1)) := by
    conv => lhs; rw [hsplit, fold_append, h2]
    rfl
  rw [ho2, hf2, hn, hj]
  constructor
  · intro hc
    rw [if_pos hc]
    have := dead_run (l.drop (j + 1)) (dead { s with ln := Ln.fold Ln.start (l.take j) }) rfl
    exact ⟨by rw [this.1]; rfl, by rw [this.2]; rfl⟩
  · intro hc
    rw [if_neg (fun e => e hc)]
    exact ⟨rfl, rfl⟩
/-- in a body of a length -/
theorem sized : ∀ (k : Nat) (l : List UInt8) (s : St), s.ph = 2 → s.left = k + 1 →
    (l.length < k + 1 → outs s l = ones l ∧ (fold s l).ph = 2) ∧
    (k + 1 ≤ l.length → outs s l = ones (l.take (k + 1)) ++ .fin :: outs { s with ph := 0, left := 0 } (l.drop (k + 1)) ∧ fold s l = fold { s with ph := 0, left := 0 } (l.drop (k + 1)))
  | k, [], s, h, _ => ⟨fun _ => ⟨rfl, h⟩, fun e => by simp at e⟩
  | k, c :: t, s, h, hk => by
    cases k with
    | zero =>
      have e : next s c = ({ s with ph := 0, left := 0 }, [.body [c], .fin]) := by
        unfold next; rw [if_neg (by omega), if_pos h, if_pos (by omega)]
      refine ⟨fun hl => by simp at hl, fun _ => ⟨?_, ?_⟩⟩
      · show (next s c).2 ++ outs (next s c).1 t = _
        rw [e]; rfl
      · show fold (next s c).1 t = _
        rw [e]; rfl
    | succ k =>
      have e : next s c = ({ s with left := k + 1 }, [.body [c]]) := by
        unfold next; rw [if_neg (by omega), if_pos h, if_neg (by omega), hk]; rfl
      obtain ⟨i1, i2⟩ := sized k t { s with left := k + 1 } h rfl
      refine ⟨fun hl => ?_, fun hl => ?_⟩
      · obtain ⟨a, b⟩ := i1 (by simp at hl; omega)
        constructor
        · show (next s c).2 ++ outs (next s c).1 t = _
          rw [e]; show [Ev.body [c]] ++ outs { s with left := k + 1 } t = _
          rw [a]; rfl
        · show (fold (next s c).1 t).ph = 2
          rw [e]; exact b
      · obtain ⟨a, b⟩ := i2 (by simp at hl; omega)
        constructor
        · show (next s c).2 ++ outs (next s c).1 t = _
          rw [e]; show [Ev.body [c]] ++ outs { s with left := k + 1 } t = _
          rw [a]; rfl
        · show fold (next s c).1 t = _
          rw [e]; exact b
end Go.Proofs.YtjpenioloeplgadGreatDoor.Rq

/- Plain laws of requests of a stream: a reader byte by byte, joined, tells what the document's own answer tells of all bytes. -/
namespace Go.Proofs.YtjpenioloeplgadGreatDoor.Rq

theorem out_over {s : Ck.St} {c : UInt8} (h4 : s.ph ≠ 4) (hc : s.code = 0) (h : (Ck.next s c).ph = 4) : Ck.out s c = [] := by
  unfold Ck.out
  rw [if_neg]
  rintro ⟨_, h1⟩
  unfold Ck.next at h
  rw [if_neg (fun e => e hc), if_neg h4, if_pos h1] at h
  have : (if s.left ≤ 1 then 2 else 1) = 4 := h
  split at this <;> omega
theorem ones_some (l : List UInt8) (h : l.length ≤ 1) : some_ l = ones l := by
  match l, h with
  | [], _ => rfl
  | [c], _ => rfl
theorem ones_append (a b : List UInt8) : ones (a ++ b) = ones a ++ ones b := by simp [ones]
/-- in a body in chunks -/
theorem chunked : ∀ (l : List UInt8) (s : St), s.ph = 3 → s.ck.code = 0 → s.ck.ph ≠ 4 →
    ((Ck.run s.ck l).code ≠ 0 → outs s l = ones (Ck.run s.ck l).body ++ [.fail (Ck.run s.ck l).code] ∧ (fold s l).ph = 4) ∧
    ((Ck.run s.ck l).code = 0 → (Ck.run s.ck l).over = true → ∃ s', s'.ph = 0 ∧ s'.ln = s.ln ∧ outs s l = ones (Ck.run s.ck l).body ++ .fin :: outs s' (l.drop (Ck.run s.ck l).used) ∧ fold s l = fold s' (l.drop (Ck.run s.ck l).used)) ∧
    ((Ck.run s.ck l).code = 0 → (Ck.run s.ck l).over = false → outs s l = ones (Ck.run s.ck l).body ∧ (fold s l).ph = 3)
  | [], s, h, _, _ => ⟨fun e => absurd rfl e, (fun _ e => by cases e), fun _ _ => ⟨rfl, h⟩⟩
  | c :: t, s, h, h0, h4 => by
    have hr : Ck.run s.ck (c :: t) = if (Ck.next s.ck c).code ≠ 0 then ⟨Ck.out s.ck c, 1, false, (Ck.next s.ck c).code⟩ else if (Ck.next s.ck c).ph = 4 then ⟨Ck.out s.ck c, 1, true, 0⟩ else ⟨Ck.out s.ck c ++ (Ck.run (Ck.next s.ck c) t).body, 1 + (Ck.run (Ck.next s.ck c) t).used, (Ck.run (Ck.next s.ck c) t).over, (Ck.run (Ck.next s.ck c) t).code⟩ := by rw [Ck.run]
    have hn : next s c = if (Ck.next s.ck c).code ≠ 0 then (dead s, [.fail (Ck.next s.ck c).code]) else if (Ck.next s.ck c).ph = 4 then ({ s with ph := 0 }, [.fin]) else ({ s with ck := Ck.next s.ck c }, some_ (Ck.out s.ck c)) := by
      unfold next; rw [if_neg (by omega), if_neg (by omega), if_pos h]
    have ho : outs s (c :: t) = (next s c).2 ++ outs (next s c).1 t := rfl
    have hf : fold s (c :: t) = fold (next s c).1 t := rfl
    rw [ho, hf, hr, hn]
    by_cases hc : (Ck.next s.ck c).code = 0
    · have hcn : ¬ (Ck.next s.ck c).code ≠ 0 := fun e => e hc
      simp only [if_neg hcn]
      by_cases hp : (Ck.next s.ck c).ph = 4
      · simp only [if_pos hp]
        refine ⟨fun e => absurd rfl e, fun _ _ => ⟨{ s with ph := 0 }, rfl, rfl, ?_, rfl⟩, fun _ e => by cases e⟩
        rw [out_over h4 h0 hp]; rfl
      · simp only [if_neg hp]
        obtain ⟨i1, i2, i3⟩ := chunked t { s with ck := Ck.next s.ck c } h hc hp
        rw [ones_some _ (Ck.out_len s.ck c), ones_append]
        refine ⟨fun e => ?_, fun e1 e2 => ?_, fun e1 e2 => ?_⟩
        · obtain ⟨a, b⟩ := i1 e
          exact ⟨by rw [a, List.append_assoc], b⟩
        · obtain ⟨s', a, b, d, g⟩ := i2 e1 e2
          refine ⟨s', a, b, ?_, ?_⟩
          · rw [d, List.append_assoc, Nat.add_comm 1, List.drop_succ_cons]
          · rw [g, Nat.add_comm 1, List.drop_succ_cons]
        · obtain ⟨a, b⟩ := i3 e1 e2
          exact ⟨by rw [a], b⟩
    · simp only [if_pos hc]
      have := dead_run t (dead s) rfl
      refine ⟨fun _ => ⟨?_, by rw [this.2]; rfl⟩, fun e => absurd e hc, fun e => absurd e hc⟩
      rw [this.1, Ck.out_code hc]; rfl
/-- in a head -/
def FsRun (s : St) (l : List UInt8) : Fs → Prop
  | .fail c => outs s l = [.fail c] ∧ (fold s l).ph = 4
  | .open_ => outs s l = [] ∧ (fold s l).ph = 1
  | .ok fs r => ∃ s1 : St, s1.ph = 1 ∧ s1.ln = Ln.start ∧ s1.hd = { s.hd with fields := fs } ∧ outs s l = (line s1 []).2 ++ outs (line s1 []).1 r ∧ fold s l = fold (line s1 []).1 r ∧ r.length < l.length
theorem fields_run : ∀ (f : Nat) (l : List UInt8) (s : St), l.length < f → AtLine s → s.ph = 1 → FsRun s l (flds f l s.hd.fields)
  | 0, l, s, hf, _, _ => by omega
  | f + 1, l, s, hf, h, h1 => by
    rw [flds]
    by_cases ho : (Ln.of l).size = 0
    · obtain ⟨e1, e2⟩ := Ck.open_of ho
      rw [if_neg (fun e => e e1), if_pos e2]
      obtain ⟨a, b⟩ := line_open h l ho
      exact ⟨a, by rw [b]; exact h1⟩
    · have hp : 0 < (Ln.of l).size := by omega
      have hle := Ln.of_le l
      obtain ⟨t1, t2⟩ := line_told h l hp
      by_cases hc : (Ln.of l).code = 0
      · rw [if_neg (fun e => e hc), if_neg (by rw [Ck.kind_of hp hc]; simp)]
        obtain ⟨a, b⟩ := t2 hc
        by_cases ht : (Ln.of l).text = []
        · rw [if_pos ht]
          rw [ht] at a b
          exact ⟨s, h1, h.ln, rfl, a, b, by rw [List.length_drop]; omega⟩
        · rw [if_neg ht]
          have hL : line s (Ln.of l).text = if s.hd.fields.length = 16 then (dead s, [.fail 8]) else if (Fd.of (Ln.of l).text).code ≠ 0 then (dead s, [.fail (Fd.of (Ln.of l).text).code]) else ({ s with hd := { s.hd with fields := s.hd.fields ++ [((Fd.of (Ln.of l).text).name, (Fd.of (Ln.of l).text).value)] } }, []) := by
            unfold line; rw [if_neg (by omega), if_neg ht]
          rw [hL] at a b
          by_cases h16 : s.hd.fields.length = 16
          · rw [if_pos h16] at a b ⊢
            have := dead_run (l.drop (Ln.of l).size) (dead s) rfl
            exact ⟨by rw [a, this.1]; rfl, by rw [b, this.2]; rfl⟩
          · rw [if_neg h16] at a b ⊢
            by_cases hfc : (Fd.of (Ln.of l).text).code = 0
            · rw [if_neg (fun e => e hfc)] at a b ⊢
              have ih := fields_run f (l.drop (Ln.of l).size) { s with hd := { s.hd with fields := s.hd.fields ++ [((Fd.of (Ln.of l).text).name, (Fd.of (Ln.of l).text).value)] } } (by rw [List.length_drop]; omega) ⟨h.ph, h.ln⟩ h1
              simp only at ih
              rw [List.nil_append] at a
              revert ih
              generalize flds f (l.drop (Ln.of l).size) (s.hd.fields ++ [((Fd.of (Ln.of l).text).name, (Fd.of (Ln.of l).text).value)]) = F
              intro ih
              cases F with
              | fail c => exact ⟨a.trans ih.1, by rw [b]; exact ih.2⟩
              | open_ => exact ⟨a.trans ih.1, by rw [b]; exact ih.2⟩
              | ok fs r =>
                obtain ⟨s1, p1, p2, p3, p4, p5, p6⟩ := ih
                exact ⟨s1, p1, p2, p3, a.trans p4, b.trans p5, by rw [List.length_drop] at p6; omega⟩
            · rw [if_pos hfc] at a b ⊢
              have := dead_run (l.drop (Ln.of l).size) (dead s) rfl
              exact ⟨by rw [a, this.1]; rfl, by rw [b, this.2]; rfl⟩
      · rw [if_pos hc]
        exact t1 hc
theorem first_fields {t : List UInt8} {h : Hd} (e : first t = .inr h) : h.fields = [] := by
  unfold first at e
  split at e
  · split at e
    · cases e
    · split at e
      · cases e
      · split at e
        · injection e with e; subst e; rfl
        · split at e
          · injection e with e; subst e; rfl
          · cases e
  · cases e
/-- does it end with a code? -/
def failed (l : List Ev) : Bool := match l.getLast? with
  | some (.fail _) => true
  | _ => false
theorem failed_fin (x q : List Ev) : failed (x ++ .fin :: q) = failed q := by
  unfold failed
  rw [List.getLast?_append]
  cases q with
  | nil => rfl
  | cons e t =>
    rw [List.getLast?_cons_cons]
    cases h : (e :: t).getLast? with
    | none => simp at h
    | some y => rfl
theorem failed_fail (x : List Ev) (c : Nat) : failed (x ++ [.fail c]) = true := by
  unfold failed; rw [List.getLast?_append]; rfl
theorem failed_head (h : Hd) (l : List UInt8) : failed (.head h :: some_ l) = false := by
  unfold some_
  split <;> rfl
/-- what is told, joined, and how it stands -/
structure Tells (s : St) (l : List UInt8) (r : List Ev × Bool) : Prop where
  ev : join (outs s l) = r.1
  busy : busy (fold s l) = r.2
  dead : decide ((fold s l).ph = 4) = failed r.1
theorem Tells.fail {s : St} {l : List UInt8} {c : Nat} (h : outs s l = [.fail c] ∧ (fold s l).ph = 4) : Tells s l ([.fail c], false) :=
  ⟨by rw [h.1]; rfl, by unfold Rq.busy; rw [if_pos h.2], by rw [h.2]; rfl⟩
theorem begun_fold (l : List UInt8) (ho : (Ln.of l).size = 0) : Ln.begun (Ln.fold Ln.start l) = decide (l ≠ []) := by
  have := Ln.fold_came l l.length (Nat.le_refl _) (Or.inl ho)
  rw [List.take_length] at this
  rw [Ln.begun_came, this.2.2]
  cases l <;> simp
theorem go_run : ∀ (f : Nat) (l : List UInt8) (s : St), l.length < f → s.ph = 0 → s.ln = Ln.start → Tells s l (go f l)
  | 0, l, s, hf, _, _ => by omega
  | f + 1, l, s, hf, h0, hln => by
    have h : AtLine s := ⟨Or.inl h0, hln⟩
    rw [go]
    by_cases ho : (Ln.of l).size = 0
    · obtain ⟨e1, e2⟩ := Ck.open_of ho
      rw [if_neg (fun e => e e1), if_pos e2]
      obtain ⟨a, b⟩ := line_open h l ho
      refine ⟨by rw [a]; rfl, ?_, by rw [b]; show decide (s.ph = 4) = false; rw [h0]; rfl⟩
      rw [b]
      unfold Rq.busy
      rw [if_neg (by show ¬ s.ph = 4; omega), if_pos h0]
      exact begun_fold l ho
    · have hp : 0 < (Ln.of l).size := by omega
      have hle := Ln.of_le l
      obtain ⟨t1, t2⟩ := line_told h l hp
      by_cases hc : (Ln.of l).code = 0
      · rw [if_neg (fun e => e hc), if_neg (by rw [Ck.kind_of hp hc]; simp)]
        obtain ⟨a, b⟩ := t2 hc
        have hdl : (l.drop (Ln.of l).size).length = l.length - (Ln.of l).size := List.length_drop
        by_cases ht : (Ln.of l).text = []
        · rw [if_pos ht]
          have hL : line s (Ln.of l).text = (s, []) := by unfold line; rw [if_pos h0, if_pos ht]
          rw [hL] at a b
          have ih := go_run f (l.drop (Ln.of l).size) s (by omega) h0 hln
          exact ⟨by rw [a]; exact ih.ev, by rw [b]; exact ih.busy, by rw [b]; exact ih.dead⟩
        · rw [if_neg ht]
          have hL : line s (Ln.of l).text = match first (Ln.of l).text with | .inl c => (dead s, [.fail c]) | .inr h => ({ s with ph := 1, hd := h }, []) := by
            unfold line; rw [if_pos h0, if_neg ht]
            cases first (Ln.of l).text <;> rfl
          rw [hL] at a b
          have hff : ∀ h, first (Ln.of l).text = .inr h → h.fields = [] := fun h e => first_fields e
          generalize first (Ln.of l).text = F at a b hff ⊢
          generalize l.drop (Ln.of l).size = d at a b hdl ⊢
          cases F with
          | inl c =>
            have := dead_run d (Rq.dead s) rfl
            exact Tells.fail ⟨by rw [a]; show [Ev.fail c] ++ outs (Rq.dead s) d = _; rw [this.1]; rfl, by rw [b]; show (fold (Rq.dead s) d).ph = 4; rw [this.2]; rfl⟩
          | inr hd =>
            simp only [List.nil_append] at a b ⊢
            have hfr := fields_run (f + 1) d { s with ph := 1, hd := hd } (by omega) ⟨Or.inr rfl, hln⟩ rfl
            simp only [hff hd rfl] at hfr
            generalize flds (f + 1) d [] = F2 at hfr ⊢
            cases F2 with
            | fail c => exact Tells.fail ⟨a.trans hfr.1, by rw [b]; exact hfr.2⟩
            | open_ =>
              refine ⟨by rw [a, hfr.1]; rfl, ?_, ?_⟩
              · rw [b]; unfold Rq.busy; rw [hfr.2]; rfl
              · rw [b, hfr.2]; rfl
            | ok fs r =>
              obtain ⟨s1, p1, p2, p3, p4, p5, p6⟩ := hfr
              have hL2 : line s1 [] = match len s1.hd with
                  | .inl c => (Rq.dead s1, [.fail c])
                  | .inr k => if k = 0 then ({ s1 with ph := 0 }, [.head { s1.hd with length := k }, .fin]) else if 0 < k then ({ s1 with ph := 2, left := k.toNat }, [.head { s1.hd with length := k }]) else ({ s1 with ph := 3, ck := Ck.start }, [.head { s1.hd with length := k }]) := by
                unfold line; rw [if_neg (by omega), if_pos rfl]
                cases len s1.hd <;> rfl
              have a2 := a.trans p4
              have b2 := b.trans p5
              simp only at p3
              have hh : ∀ k, ({ s1.hd with length := k } : Hd) = { hd with fields := fs, length := k } := fun k => by rw [p3]
              have hlen : len s1.hd = len { hd with fields := fs } := by rw [p3]
              rw [hlen] at hL2
              rw [hL2] at a2 b2
              simp only
              generalize len { hd with fields := fs } = K at a2 b2 ⊢
              cases K with
              | inl c =>
                have := dead_run r (Rq.dead s1) rfl
                exact Tells.fail ⟨by rw [a2]; show [Ev.fail c] ++ outs (Rq.dead s1) r = _; rw [this.1]; rfl, by rw [b2]; show (fold (Rq.dead s1) r).ph = 4; rw [this.2]; rfl⟩
              | inr k =>
                simp only [hh] at a2 b2 ⊢
                by_cases hk : 0 ≤ k
                · rw [if_pos hk]
                  by_cases hk0 : k = 0
                  · subst hk0
                    rw [if_pos rfl] at a2 b2
                    rw [if_pos (show Int.toNat 0 ≤ r.length from Nat.zero_le _)]
                    have ih := go_run f r { s1 with ph := 0 } (by omega) rfl p2
                    refine ⟨?_, by rw [b2]; exact ih.busy, ?_⟩
                    · rw [a2]
                      show join (.head _ :: .fin :: outs { s1 with ph := 0 } r) = _
                      rw [join_head, join_fin, ih.ev]; rfl
                    · rw [b2]
                      refine ih.dead.trans ?_
                      exact (failed_fin [_] _).symm
                  · rw [if_neg hk0, if_pos (by omega)] at a2 b2
                    obtain ⟨j, hj⟩ : ∃ j, k.toNat = j + 1 := ⟨k.toNat - 1, by omega⟩
                    obtain ⟨z1, z2⟩ := sized j r { s1 with ph := 2, left := k.toNat } rfl hj
                    by_cases hle2 : k.toNat ≤ r.length
                    · rw [if_pos hle2]
                      obtain ⟨y1, y2⟩ := z2 (by omega)
                      have ih := go_run f (r.drop (j + 1)) { s1 with ph := 0, left := 0 } (by rw [List.length_drop]; omega) rfl p2
                      rw [hj]
                      refine ⟨?_, by rw [b2, y2]; exact ih.busy, ?_⟩
                      · rw [a2, y1]
                        show join (.head _ :: (ones (r.take (j + 1)) ++ .fin :: outs { s1 with ph := 0, left := 0 } (r.drop (j + 1)))) = _
                        rw [join_head, join_ones _ _ (apart_fin _), join_fin, ih.ev]; rfl
                      · rw [b2, y2]
                        refine ih.dead.trans ?_
                        exact (failed_fin (.head _ :: some_ (r.take (j + 1))) _).symm
                    · rw [if_neg hle2]
                      obtain ⟨y1, y2⟩ := z1 (by omega)
                      refine ⟨?_, ?_, ?_⟩
                      · rw [a2, y1]
                        show join (.head _ :: ones r) = _
                        have := join_ones r [] apart_nil
                        rw [List.append_nil, show join [] = [] from rfl, List.append_nil] at this
                        rw [join_head, this]
                      · rw [b2]; unfold Rq.busy; rw [y2]; rfl
                      · rw [b2, y2]; exact (failed_head _ _).symm
                · rw [if_neg hk]
                  rw [if_neg (by omega), if_neg (by omega)] at a2 b2
                  have hs := Ck.of_run r
                  obtain ⟨z1, z2, z3⟩ := chunked r { s1 with ph := 3, ck := Ck.start } rfl rfl (by show (0 : Nat) ≠ 4; omega)
                  simp only at z1 z2 z3
                  rw [← hs.code, ← hs.body] at z1
                  rw [← hs.code, ← hs.over, ← hs.body] at z2 z3
                  by_cases hcc : (Ck.of r).code = 0
                  · rw [if_neg (fun e => e hcc)]
                    cases hov : (Ck.of r).over
                    · rw [if_pos rfl]
                      obtain ⟨y1, y2⟩ := z3 hcc hov
                      refine ⟨?_, ?_, ?_⟩
                      · rw [a2, y1]
                        show join (.head _ :: ones (Ck.of r).body) = _
                        have := join_ones (Ck.of r).body [] apart_nil
                        rw [List.append_nil, show join [] = [] from rfl, List.append_nil] at this
                        rw [join_head, this]
                      · rw [b2]; unfold Rq.busy; rw [y2]; rfl
                      · rw [b2, y2]; exact (failed_head _ _).symm
                    · rw [if_neg (by simp)]
                      obtain ⟨s', y1, y2, y3, y4⟩ := z2 hcc hov
                      rw [← hs.used (Or.inr hov)] at y3 y4
                      have hu := Ck.of_used r (Or.inr hov)
                      have ih := go_run f (r.drop (Ck.of r).used) s' (by rw [List.length_drop]; omega) y1 (y2.trans p2)
                      refine ⟨?_, by rw [b2, y4]; exact ih.busy, ?_⟩
                      · rw [a2, y3]
                        show join (.head _ :: (ones (Ck.of r).body ++ .fin :: outs s' (r.drop (Ck.of r).used))) = _
                        rw [join_head, join_ones _ _ (apart_fin _), join_fin, ih.ev]; rfl
                      · rw [b2, y4]
                        refine ih.dead.trans ?_
                        exact (failed_fin (.head _ :: some_ (Ck.of r).body) _).symm
                  · rw [if_pos hcc]
                    obtain ⟨y1, y2⟩ := z1 hcc
                    refine ⟨?_, ?_, ?_⟩
                    · rw [a2, y1]
                      show join (.head _ :: (ones (Ck.of r).body ++ [.fail (Ck.of r).code])) = _
                      rw [join_head, join_ones _ _ (apart_fail _ _)]; rfl
                    · rw [b2]; unfold Rq.busy; rw [if_pos y2]
                    · rw [b2, y2]; exact (failed_fail (.head _ :: some_ (Ck.of r).body) _).symm
      · rw [if_pos hc]
        exact Tells.fail (t1 hc)
/-- a reader that is new tells what is told of all bytes -/
theorem of_run (l : List UInt8) : Tells start l (of l) := go_run (l.length + 1) l start (by omega) rfl rfl
end Go.Proofs.YtjpenioloeplgadGreatDoor.Rq

/- Plain laws of requests of a stream: how bytes fall does not matter. -/
namespace Go.Proofs.YtjpenioloeplgadGreatDoor.Rq

/-- no two bodies stand one behind the other -/
def Joined : List Ev → Prop
  | [] => True
  | .body _ :: r => Apart r ∧ Joined r
  | _ :: r => Joined r
theorem joined_join : ∀ l : List Ev, Joined (join l)
  | [] => trivial
  | .head h :: r => by rw [join]; exact joined_join r
  | .fin :: r => by rw [join]; exact joined_join r
  | .fail c :: r => by rw [join]; exact joined_join r
  | .body a :: r => by
    have ih := joined_join r
    rw [join]
    cases hj : join r with
    | nil => exact ⟨trivial, trivial⟩
    | cons e q =>
      rw [hj] at ih
      cases e with
      | body b => exact ih
      | head h => exact ⟨trivial, ih⟩
      | fin => exact ⟨trivial, ih⟩
      | fail c => exact ⟨trivial, ih⟩
theorem join_of_joined : ∀ l : List Ev, Joined l → join l = l
  | [], _ => rfl
  | .head h :: r, k => by rw [join, join_of_joined r k]
  | .fin :: r, k => by rw [join, join_of_joined r k]
  | .fail c :: r, k => by rw [join, join_of_joined r k]
  | .body a :: r, k => by
    have e := join_of_joined r k.2
    rw [join_body (by rw [e]; exact k.1), e]
theorem join_join (l : List Ev) : join (join l) = join l := join_of_joined _ (joined_join l)
/-- what follows may be joined ahead -/
theorem join_right : ∀ (a b : List Ev), join (a ++ join b) = join (a ++ b)
  | [], b => join_join b
  | .head h :: r, b => by rw [List.cons_append, List.cons_append, join, join, join_right r b]
  | .fin :: r, b => by rw [List.cons_append, List.cons_append, join, join, join_right r b]
  | .fail c :: r, b => by rw [List.cons_append, List.cons_append, join, join, join_right r b]
  | .body x :: r, b => by rw [List.cons_append, List.cons_append, join, join, join_right r b]
/-- a body ahead of what is joined -/
theorem join_cons (x : List UInt8) (l r : List Ev) (h : join l = join r) : join (.body x :: l) = join (.body x :: r) := by rw [join, join, h]
/-- what stands ahead may be joined, too -/
theorem join_left : ∀ (a b : List Ev), join (join a ++ b) = join (a ++ b)
  | [], b => rfl
  | .head h :: r, b => by rw [join, List.cons_append, List.cons_append, join, join, join_left r b]
  | .fin :: r, b => by rw [join, List.cons_append, List.cons_append, join, join, join_left r b]
  | .fail c :: r, b => by rw [join, List.cons_append, List.cons_append, join, join, join_left r b]
  | .body x :: r, b => by
    have ih := join_left r b
    have e1 : join (.body x :: (join r ++ b)) = join (.body x :: (r ++ b)) := join_cons x _ _ ih
    rw [List.cons_append, ← e1]
    have e2 : join (.body x :: r) = match join r with | .body y :: q => .body (x ++ y) :: q | q => .body x :: q := by
      rw [join]
      cases join r with
      | nil => rfl
      | cons e q => cases e <;> rfl
    rw [e2]
    cases join r with
    | nil => rfl
    | cons e q => cases e with
      | body y =>
        show join (.body (x ++ y) :: (q ++ b)) = join (.body x :: .body y :: (q ++ b))
        rw [join_more]
      | head h => rfl
      | fin => rfl
      | fail c => rfl
/-- bytes in pieces: what each of them brings, joined, one behind the other -/
def fed : St → List (List UInt8) → List Ev
  | _, [] => []
  | s, p :: ps => join (outs s p) ++ fed (fold s p) ps
/-- HOW BYTES FALL DOES NOT MATTER -/
theorem join_fed : ∀ (ps : List (List UInt8)) (s : St), join (fed s ps) = join (outs s ps.flatten)
  | [], s => rfl
  | p :: ps, s => by
    show join (join (outs s p) ++ fed (fold s p) ps) = join (outs s (p ++ ps.flatten))
    rw [join_left, outs_append, ← join_right, join_fed ps (fold s p), join_right]
theorem fold_pieces : ∀ (ps : List (List UInt8)) (s : St), ps.foldl fold s = fold s ps.flatten
  | [], s => rfl
  | p :: ps, s => by
    show ps.foldl fold (fold s p) = fold s (p ++ ps.flatten)
    rw [fold_append, fold_pieces ps]
theorem fed_snoc : ∀ (ps : List (List UInt8)) (s : St) (p : List UInt8), fed s (ps ++ [p]) = fed s ps ++ join (outs (fold s ps.flatten) p)
  | [], s, p => by simp [fed, fold]
  | q :: ps, s, p => by
    show join (outs s q) ++ fed (fold s q) (ps ++ [p]) = (join (outs s q) ++ fed (fold s q) ps) ++ join (outs (fold s (q ++ ps.flatten)) p)
    rw [fed_snoc ps, fold_append, List.append_assoc]
end Go.Proofs.YtjpenioloeplgadGreatDoor.Rq

/- Plain laws of requests of a stream: a request's text, and there and back. -/
namespace Go.Proofs.YtjpenioloeplgadGreatDoor.Rq

/-- fields, a line each: a code, or their text -/
def lines : List Fl → Nat ⊕ List UInt8
  | [] => .inr []
  | f :: r => if (Fd.text f.1 f.2).2 ≠ 0 then .inl (Fd.text f.1 f.2).2 else match lines r with
    | .inl c => .inl c
    | .inr s => .inr ((Fd.text f.1 f.2).1 ++ 13 :: 10 :: s)
def nCL : List UInt8 := [67, 111, 110, 116, 101, 110, 116, 45, 76, 101, 110, 103, 116, 104]
def v11 : List UInt8 := [72, 84, 84, 80, 47, 49, 46, 49]
/-- a request's text, and a code -/
def text (h : Hd) (body : List UInt8) : List UInt8 × Nat :=
  if Ch.isToken h.method = false then ([], 6)
  else if h.target.head? ≠ some 47 ∨ 32 ∈ h.target ∨ 9 ∈ h.target ∨ Ch.isVisible h.target = false then ([], 5)
  else if 200 < h.method.length + h.target.length + 10 ∨ 4000 < body.length then ([], 4)
  else if 16 ≤ h.fields.length then ([], 8)
  else if vals h.fields nSize ≠ [] ∨ vals h.fields nCode ≠ [] then ([], 12)
  else if (vals h.fields nHost).length ≠ 1 then ([], 13)
  else match lines h.fields with
    | .inl c => ([], c)
    | .inr s => (h.method ++ 32 :: (h.target ++ 32 :: (v11 ++ 13 :: 10 :: (s ++ (nCL ++ [58, 32] ++ Ch.decF 8 body.length ++ 13 :: 10 :: 13 :: 10 :: body)))), 0)
/-- the head as it is read -/
def back (h : Hd) (body : List UInt8) : Hd := { h with minor := 1, fields := h.fields ++ [(nCL, Ch.decF 8 body.length)], length := (body.length : Int) }

theorem cut_end : ∀ (m w : List UInt8), (∀ b ∈ m, b ≠ 32) → cut w m = [w ++ m]
  | [], w, _ => by simp [cut]
  | c :: t, w, h => by
    rw [cut, if_neg (h c (List.mem_cons_self ..)), cut_end t (w ++ [c]) (fun b hb => h b (List.mem_cons_of_mem _ hb))]
    simp
theorem cut_word : ∀ (m w t : List UInt8), (∀ b ∈ m, b ≠ 32) → cut w (m ++ 32 :: t) = (w ++ m) :: cut [] t
  | [], w, t, _ => by simp [cut]
  | c :: m, w, t, h => by
    rw [List.cons_append, cut, if_neg (h c (List.mem_cons_self ..)), cut_word m (w ++ [c]) t (fun b hb => h b (List.mem_cons_of_mem _ hb))]
    simp
theorem token_fine (b : UInt8) (h : Ch.token b.toNat = true) : Ch.visible b.toNat = true ∧ b ≠ 32 := by
  have hb := b.toNat_lt
  have := (show ∀ n : Fin 256, Ch.token ((n.val.toUInt8).toNat : Int) = true → Ch.visible ((n.val.toUInt8).toNat : Int) = true ∧ n.val.toUInt8 ≠ 32 by decide +kernel) ⟨b.toNat, hb⟩
  have e : b.toNat.toUInt8 = b := by simp
  simp only [e] at this
  exact this h
theorem isToken_all {m : List UInt8} (h : Ch.isToken m = true) : m ≠ [] ∧ ∀ b ∈ m, Ch.visible b.toNat = true ∧ b ≠ 32 := by
  unfold Ch.isToken at h
  rw [Bool.and_eq_true] at h
  refine ⟨fun e => by rw [e] at h; exact absurd h.1 (by simp), fun b hb => token_fine b (List.all_eq_true.1 h.2 b hb)⟩
theorem seen_all {m : List UInt8} (h : Ch.isVisible m = true) : ∀ b ∈ m, Ch.visible b.toNat = true := fun b hb => List.all_eq_true.1 h b hb
/-- a first line that is read -/
theorem first_is {m g : List UInt8} (hm : Ch.isToken m = true) (hg : g.head? = some 47) (h32 : 32 ∉ g) (h9 : 9 ∉ g) : first (m ++ 32 :: (g ++ 32 :: v11)) = .inr ⟨m, g, 1, [], 0⟩ := by
  unfold first
  rw [cut_word m [] _ (fun b hb => ((isToken_all hm).2 b hb).2), cut_word g [] _ (fun b hb e => h32 (e ▸ hb)), cut_end v11 [] (by decide)]
  simp only [List.nil_append]
  rw [if_neg (by rw [hm]; simp), if_neg (by rw [hg]; simp [h9]), if_pos (show v11 = [72, 84, 84, 80, 47, 49, 46, 49] from rfl)]
/-- fields that are read -/
theorem field_line {n v : List UInt8} (h : (Fd.text n v).2 = 0) (r : List UInt8) : Ln.of ((Fd.text n v).1 ++ 13 :: 10 :: r) = ⟨(Fd.text n v).1, (Fd.text n v).1.length + 2, true, 0⟩ ∧ (Fd.text n v).1 ≠ [] ∧ Fd.of (Fd.text n v).1 = ⟨n, v, 0⟩ := by
  obtain ⟨hG, hl⟩ := Fd.text_zero h
  have e := Fd.text_good hG hl
  rw [e]
  simp only
  have ho := Fd.of_text hG
  refine ⟨Ck.line_of _ r (fun b hb => ?_) (by simp; omega), by simp, ho⟩
  unfold Fd.text at h
  have hT : Ch.isToken n = true := by
    cases ht : Ch.isToken n
    · rw [if_pos ht] at h; cases h
    · rfl
  rw [if_neg (by rw [hT]; simp)] at h
  have hV : Ch.isVisible v = true := by
    split at h
    · cases h
    · split at h
      · cases h
      · rename_i hh
        cases hv : Ch.isVisible v
        · exact absurd (Or.inl hv) hh
        · rfl
  simp only [List.mem_append, List.mem_cons, List.not_mem_nil, or_false] at hb
  rcases hb with (hb | rfl | rfl) | hb
  · exact ((isToken_all hT).2 b hb).1
  · decide
  · decide
  · exact seen_all hV b hb
theorem flds_lines : ∀ (fs acc : List Fl) (f : Nat) (rest s : List UInt8), lines fs = .inr s → acc.length + fs.length ≤ 16 → flds (f + fs.length) (s ++ rest) acc = flds f rest (acc ++ fs)
  | [], acc, f, rest, s, h, _ => by
    injection h with h; subst h
    simp
  | x :: fs, acc, f, rest, s, h, hl => by
    rw [lines] at h
    by_cases hc : (Fd.text x.1 x.2).2 = 0
    · rw [if_neg (fun e => e hc)] at h
      cases hs : lines fs with
      | inl c => rw [hs] at h; cases h
      | inr s' =>
        rw [hs] at h
        injection h with h; subst h
        simp only [List.length_cons] at hl
        obtain ⟨h1, h2, h3⟩ := field_line hc (s' ++ rest)
        have e : (Fd.text x.1 x.2).1 ++ 13 :: 10 :: s' ++ rest = (Fd.text x.1 x.2).1 ++ 13 :: 10 :: (s' ++ rest) := by simp
        rw [e, List.length_cons, ← Nat.add_assoc, flds, h1]
        simp only
        rw [if_neg (by simp), if_neg (by simp), if_neg h2, if_neg (by omega), h3]
        simp only
        rw [if_neg (by simp)]
        have hd : List.drop ((Fd.text x.1 x.2).1.length + 2) ((Fd.text x.1 x.2).1 ++ 13 :: 10 :: (s' ++ rest)) = s' ++ rest := by
          rw [← List.drop_drop, List.drop_left]; rfl
        rw [hd, flds_lines fs (acc ++ [(x.1, x.2)]) f rest s' hs (by simp; omega)]
        simp
    · rw [if_pos hc] at h; cases h
theorem dec_fine : ∀ (f n : Nat), n < 10 ^ (f + 1) → ∀ b ∈ Ch.decF f n, Ch.visible b.toNat = true ∧ Ch.ws.contains b = false := by
  have key : ∀ j, j < 10 → ∀ b ∈ Ch.decF 0 j, Ch.visible b.toNat = true ∧ Ch.ws.contains b = false := fun j hj => (show ∀ j : Fin 10, ∀ b ∈ Ch.decF 0 j.val, Ch.visible b.toNat = true ∧ Ch.ws.contains b = false by decide +kernel) ⟨j, hj⟩
  intro f
  induction f with
  | zero => intro n h b hb; exact key n (by simpa using h) b hb
  | succ f ih =>
    intro n h b hb
    unfold Ch.decF at hb
    split at hb
    · rename_i hn; exact key n hn b hb
    · rw [List.mem_append] at hb
      rcases hb with hb | hb
      · exact ih (n / 10) (by rw [Nat.pow_succ] at h; omega) b hb
      · exact key (n % 10) (by omega) b hb
/-- a Content-Length's own line -/
theorem cl_text (n : Nat) (h : n ≤ 4000) : (Fd.text nCL (Ch.decF 8 n)).2 = 0 ∧ (Fd.text nCL (Ch.decF 8 n)).1 = nCL ++ [58, 32] ++ Ch.decF 8 n := by
  have hf := dec_fine 8 n (by omega)
  have hl := Ch.decF_length 8 n
  have hk : nCL.length = 14 := rfl
  unfold Fd.text
  rw [if_neg (by decide), if_neg (by rw [hk]; omega), if_neg]
  · exact ⟨rfl, rfl⟩
  · rintro (e | e)
    · have : Ch.isVisible (Ch.decF 8 n) = true := List.all_eq_true.2 fun b hb => (hf b hb).1
      rw [this] at e; cases e
    · exact e (Ck.trim_none fun b hb => (hf b hb).2)
theorem vals_append (a b : List Fl) (n : List UInt8) : vals (a ++ b) n = vals a n ++ vals b n := by simp [vals]
/-- there and back: a request that was written, ahead of whatever follows -/
theorem go_text (h : Hd) (a rest : List UInt8) (f : Nat) (hc : (text h a).2 = 0) (hf : (text h a).1.length + rest.length < f + 1) :
    go (f + 1) ((text h a).1 ++ rest) = (.head (back h a) :: some_ a ++ .fin :: (go f rest).1, (go f rest).2) := by
  unfold text at hc hf ⊢
  by_cases h1 : Ch.isToken h.method = false
  · rw [if_pos h1] at hc; cases hc
  rw [if_neg h1] at hc hf ⊢
  by_cases h2 : h.target.head? ≠ some 47 ∨ 32 ∈ h.target ∨ 9 ∈ h.target ∨ Ch.isVisible h.target = false
  · rw [if_pos h2] at hc; cases hc
  rw [if_neg h2] at hc hf ⊢
  by_cases h3 : 200 < h.method.length + h.target.length + 10 ∨ 4000 < a.length
  · rw [if_pos h3] at hc; cases hc
  rw [if_neg h3] at hc hf ⊢
  by_cases h4 : 16 ≤ h.fields.length
  · rw [if_pos h4] at hc; cases hc
  rw [if_neg h4] at hc hf ⊢
  by_cases h5 : vals h.fields nSize ≠ [] ∨ vals h.fields nCode ≠ []
  · rw [if_pos h5] at hc; cases hc
  rw [if_neg h5] at hc hf ⊢
  by_cases h6 : (vals h.fields nHost).length ≠ 1
  · rw [if_pos h6] at hc; cases hc
  rw [if_neg h6] at hc hf ⊢
  cases hs : lines h.fields with
  | inl c => 
    rw [hs] at hc
    exfalso
    have key : ∀ fs c, lines fs = .inl c → c ≠ 0 := by
      intro fs
      induction fs with
      | nil => intro c e; cases e
      | cons x r ih =>
        intro c e
        rw [lines] at e
        split at e
        · rename_i hx; injection e with e; subst e; exact hx
        · cases hr : lines r with
          | inl d => rw [hr] at e; injection e with e; subst e; exact ih d hr
          | inr d => rw [hr] at e; cases e
    exact key _ c hs hc
  | inr s =>
    rw [hs] at hf
    simp only at hf ⊢
    clear hc
    have hm : Ch.isToken h.method = true := by
      cases e : Ch.isToken h.method
      · exact absurd e h1
      · rfl
    have hg1 : h.target.head? = some 47 := by
      rcases Decidable.em (h.target.head? = some 47) with e | e
      · exact e
      · exact absurd (Or.inl e) h2
    have hg2 : 32 ∉ h.target := fun e => h2 (Or.inr (Or.inl e))
    have hg3 : 9 ∉ h.target := fun e => h2 (Or.inr (Or.inr (Or.inl e)))
    have hg4 : Ch.isVisible h.target = true := by
      cases e : Ch.isVisible h.target
      · exact absurd (Or.inr (Or.inr (Or.inr e))) h2
      · rfl
    have ha : a.length ≤ 4000 := by omega
    obtain ⟨c1, c2⟩ := cl_text a.length ha
    -- the first line
    have e0 : h.method ++ 32 :: (h.target ++ 32 :: (v11 ++ 13 :: 10 :: (s ++ (nCL ++ [58, 32] ++ Ch.decF 8 a.length ++ 13 :: 10 :: 13 :: 10 :: a)))) ++ rest = (h.method ++ 32 :: (h.target ++ 32 :: v11)) ++ 13 :: 10 :: (s ++ ((nCL ++ [58, 32] ++ Ch.decF 8 a.length) ++ 13 :: 10 :: (13 :: 10 :: (a ++ rest)))) := by simp
    have hlen : (h.method ++ 32 :: (h.target ++ 32 :: v11)).length = h.method.length + h.target.length + 10 := by
      simp [v11]; omega
    have hl0 := Ck.line_of (h.method ++ 32 :: (h.target ++ 32 :: v11)) (s ++ ((nCL ++ [58, 32] ++ Ch.decF 8 a.length) ++ 13 :: 10 :: (13 :: 10 :: (a ++ rest)))) (fun b hb => by
      rw [List.mem_append, List.mem_cons, List.mem_append, List.mem_cons] at hb
      rcases hb with hb | rfl | hb | rfl | hb
      · exact ((isToken_all hm).2 b hb).1
      · decide
      · exact seen_all hg4 b hb
      · decide
      · exact (show ∀ b ∈ v11, Ch.visible b.toNat = true by decide) b hb) (by omega)
    have hne : h.method ++ 32 :: (h.target ++ 32 :: v11) ≠ [] := by simp
    have hdrop : List.drop ((h.method ++ 32 :: (h.target ++ 32 :: v11)).length + 2) ((h.method ++ 32 :: (h.target ++ 32 :: v11)) ++ 13 :: 10 :: (s ++ ((nCL ++ [58, 32] ++ Ch.decF 8 a.length) ++ 13 :: 10 :: (13 :: 10 :: (a ++ rest))))) = s ++ ((nCL ++ [58, 32] ++ Ch.decF 8 a.length) ++ 13 :: 10 :: (13 :: 10 :: (a ++ rest))) := by
      rw [← List.drop_drop, List.drop_left]; rfl
    have htot : h.fields.length + 2 ≤ f := by
      have hk : h.fields.length ≤ 15 := by omega
      have : (nCL ++ [58, 32] ++ Ch.decF 8 a.length ++ 13 :: 10 :: 13 :: 10 :: a).length ≥ 20 := by simp [nCL]; omega
      simp only [List.length_append, List.length_cons] at hf this
      omega
    have hfl : flds (f + 1) (s ++ ((nCL ++ [58, 32] ++ Ch.decF 8 a.length) ++ 13 :: 10 :: (13 :: 10 :: (a ++ rest)))) [] = .ok (h.fields ++ [(nCL, Ch.decF 8 a.length)]) (a ++ rest) := by
      obtain ⟨k, hk⟩ : ∃ k, f + 1 = (k + 2) + h.fields.length := ⟨f - 1 - h.fields.length, by omega⟩
      rw [hk, flds_lines h.fields [] (k + 2) _ s hs (by simp; omega), ← c2]
      obtain ⟨g1, g2, g3⟩ := field_line c1 (13 :: 10 :: (a ++ rest))
      rw [flds, g1]
      simp only
      rw [if_neg (by simp), if_neg (by simp), if_neg g2, if_neg (by simp; omega), g3]
      simp only
      rw [if_neg (by simp)]
      have hd2 : List.drop ((Fd.text nCL (Ch.decF 8 a.length)).1.length + 2) ((Fd.text nCL (Ch.decF 8 a.length)).1 ++ 13 :: 10 :: (13 :: 10 :: (a ++ rest))) = 13 :: 10 :: (a ++ rest) := by
        rw [← List.drop_drop, List.drop_left]; rfl
      have hl2 : Ln.of (13 :: 10 :: (a ++ rest)) = ⟨[], 2, true, 0⟩ := Ck.line_of [] (a ++ rest) (by simp) (by simp)
      rw [hd2, flds, hl2]
      simp
    have hv5 : vals h.fields nSize = [] ∧ vals h.fields nCode = [] := by
      constructor
      · rcases Decidable.em (vals h.fields nSize = []) with e | e
        · exact e
        · exact absurd (Or.inl e) h5
      · rcases Decidable.em (vals h.fields nCode = []) with e | e
        · exact e
        · exact absurd (Or.inr e) h5
    have w1 : vals [(nCL, Ch.decF 8 a.length)] nHost = [] := by
      have k : (Ch.lower nCL == nHost) = false := by decide
      simp only [vals, List.filter, k, List.map]
    have w2 : vals [(nCL, Ch.decF 8 a.length)] nCode = [] := by
      have k : (Ch.lower nCL == nCode) = false := by decide
      simp only [vals, List.filter, k, List.map]
    have w3 : vals [(nCL, Ch.decF 8 a.length)] nSize = [Ch.decF 8 a.length] := by
      have k : (Ch.lower nCL == nSize) = true := by decide
      simp only [vals, List.filter, k, List.map]
    have hln : len ⟨h.method, h.target, 1, h.fields ++ [(nCL, Ch.decF 8 a.length)], 0⟩ = .inr (a.length : Int) := by
      unfold len
      simp only [vals_append, w1, w2, w3, hv5.1, hv5.2, List.append_nil, List.nil_append]
      have h6' : (vals h.fields nHost).length = 1 := by omega
      rw [if_neg (by rw [h6']; simp), if_neg (by simp)]
      simp only [List.headD_cons]
      rw [sizes, Ch.number_dec a.length (by omega), if_neg (by simp), if_neg (by simp), sizes]
      simp only
      rw [if_neg (by omega)]
    rw [e0, go, hl0]
    simp only
    rw [if_neg (by simp), if_neg (by simp), if_neg hne, first_is hm hg1 hg2 hg3, hdrop]
    simp only
    rw [hfl]
    simp only
    rw [hln]
    simp only
    rw [if_pos (by omega), if_pos (by simp), Int.toNat_natCast, List.drop_left, List.take_left]
    rfl
end Go.Proofs.YtjpenioloeplgadGreatDoor.Rq

/- Plain laws of requests of a stream: an event more behind events that are joined; what a reader keeps is so; a first line by its blanks. -/
namespace Go.Proofs.YtjpenioloeplgadGreatDoor.Rq

/-- does it end with a body? -/
def tailed : List Ev → Bool
  | [] => false
  | [.body _] => true
  | _ :: r => tailed r
def Ev.isBody : Ev → Bool
  | .body _ => true
  | _ => false
theorem joined_snoc : ∀ (l : List Ev) (e : Ev), Joined l → (e.isBody = true → tailed l = false) → Joined (l ++ [e])
  | [], e, _, _ => by cases e <;> first | exact trivial | exact ⟨trivial, trivial⟩
  | [x], e, hl, h => by
    cases x with
    | body a =>
      cases e with
      | body b => exact absurd (h rfl) (by simp [tailed])
      | head _ => exact ⟨trivial, trivial⟩
      | fin => exact ⟨trivial, trivial⟩
      | fail _ => exact ⟨trivial, trivial⟩
    | head _ => cases e <;> first | exact trivial | exact ⟨trivial, trivial⟩
    | fin => cases e <;> first | exact trivial | exact ⟨trivial, trivial⟩
    | fail _ => cases e <;> first | exact trivial | exact ⟨trivial, trivial⟩
  | x :: y :: r, e, hl, h => by
    have h' : e.isBody = true → tailed (y :: r) = false := fun k => by
      have := h k
      cases x <;> exact this
    cases x with
    | body a => exact ⟨by have := hl.1; cases y <;> exact this, joined_snoc (y :: r) e hl.2 h'⟩
    | head _ => exact joined_snoc (y :: r) e hl h'
    | fin => exact joined_snoc (y :: r) e hl h'
    | fail _ => exact joined_snoc (y :: r) e hl h'
/-- an event more that stands behind no body, or is none -/
theorem join_plain {l : List Ev} {e : Ev} (hl : Joined l) (h : e.isBody = true → tailed l = false) : join (l ++ [e]) = l ++ [e] := join_of_joined _ (joined_snoc l e hl h)
theorem joined_same : ∀ (l : List Ev) (a b : List UInt8), Joined (l ++ [.body a]) → Joined (l ++ [.body b])
  | [], _, _, h => h
  | [.body x], _, _, h => absurd h.1 (fun k => k)
  | .body x :: y :: r, a, b, h => ⟨by have := h.1; cases y <;> exact this, joined_same (y :: r) a b h.2⟩
  | .head _ :: r, a, b, h => joined_same r a b h
  | .fin :: r, a, b, h => joined_same r a b h
  | .fail _ :: r, a, b, h => joined_same r a b h
/-- bytes of a body more behind such -/
theorem join_bodies {l : List Ev} {a b : List UInt8} (h : Joined (l ++ [.body a])) : join (l ++ [.body a] ++ [.body b]) = l ++ [.body (a ++ b)] := by
  rw [List.append_assoc, ← join_right]
  exact join_of_joined _ (joined_same l a (a ++ b) h)
theorem tailed_snoc : ∀ (l : List Ev) (e : Ev), tailed (l ++ [e]) = e.isBody
  | [], e => by cases e <;> rfl
  | x :: [], e => by cases x <;> cases e <;> rfl
  | x :: y :: r, e => by
    have := tailed_snoc (y :: r) e
    cases x <;> exact this
theorem tailed_split : ∀ (l : List Ev), tailed l = true → ∃ q a, l = q ++ [.body a]
  | [], h => by cases h
  | [x], h => by
    cases x with
    | body a => exact ⟨[], a, rfl⟩
    | head _ => cases h
    | fin => cases h
    | fail _ => cases h
  | x :: y :: r, h => by
    have : tailed (y :: r) = true := by cases x <;> exact h
    obtain ⟨q, a, e⟩ := tailed_split (y :: r) this
    exact ⟨x :: q, a, by rw [e]; rfl⟩
/-- events more, one behind the other -/
theorem join_two (l a b : List Ev) : join (join (l ++ a) ++ b) = join (l ++ (a ++ b)) := by rw [join_left, List.append_assoc]
theorem outs_snoc (s : St) (l : List UInt8) (c : UInt8) : outs s (l ++ [c]) = outs s l ++ (next (fold s l) c).2 := by
  rw [outs_append]; show _ ++ ((next (fold s l) c).2 ++ []) = _; rw [List.append_nil]
theorem fold_snoc (s : St) (l : List UInt8) (c : UInt8) : fold s (l ++ [c]) = (next (fold s l) c).1 := by rw [fold_append]; rfl

/-- a head that is read is so -/
structure HGood (h : Hd) : Prop where
  method : h.method.length ≤ 200
  target : h.target.length ≤ 200
  minor : h.minor ≤ 1
  many : h.fields.length ≤ 16
  fields : ∀ f ∈ h.fields, f.1.length ≤ 200 ∧ f.2.length ≤ 200
/-- what a reader keeps is so, whatever comes -/
structure Good (s : St) : Prop where
  ph : s.ph ≤ 4
  ln : Ln.Good s.ln
  lc : s.ln.code = 0
  hd : s.ph = 1 → HGood s.hd ∧ s.hd.length = 0
  left : s.ph = 2 → 0 < s.left ∧ s.left ≤ 4000
  ck : s.ph = 3 → Ck.Good s.ck ∧ s.ck.code = 0 ∧ s.ck.ph ≠ 4
def Ev.Fine : Ev → Prop
  | .head h => HGood h
  | _ => True
theorem Good.start : Good start := ⟨Nat.zero_le _, Ln.Good.start, rfl, (fun h => by cases h), (fun h => by cases h), (fun h => by cases h)⟩
theorem cut_len : ∀ (t w : List UInt8), (cut w t).length = t.count 32 + 1
  | [], w => rfl
  | c :: t, w => by
    rw [cut]
    by_cases h : c = 32
    · subst h
      rw [if_pos rfl, List.length_cons, cut_len t [], List.count_cons_self]
    · rw [if_neg h, cut_len t, List.count_cons_of_ne (by simpa using h)]
theorem split_at {c : UInt8} {t : List UInt8} (h : Fd.at_ c t < t.length) : t = t.take (Fd.at_ c t) ++ c :: t.drop (Fd.at_ c t + 1) := by
  conv => lhs; rw [← List.take_append_drop (Fd.at_ c t) t, List.drop_eq_getElem_cons h, Fd.at_here h]
theorem free_at {c : UInt8} {t : List UInt8} : ∀ b ∈ t.take (Fd.at_ c t), b ≠ c := by
  intro b hb
  obtain ⟨j, hj, rfl⟩ := List.mem_iff_getElem.1 hb
  rw [List.length_take] at hj
  rw [List.getElem_take]
  exact Fd.at_first (by omega) (by omega)
theorem count_at {c : UInt8} {t : List UInt8} (h : 0 < t.count c) : Fd.at_ c t < t.length := by
  rcases Nat.lt_or_ge (Fd.at_ c t) t.length with g | g
  · exact g
  · have := free_at (c := c) (t := t)
    rw [List.take_of_length_le g] at this
    have h0 : t.count c = 0 := List.count_eq_zero.2 (fun k => this c k rfl)
    omega
theorem count_rest {c : UInt8} {t : List UInt8} (h : Fd.at_ c t < t.length) : t.count c = (t.drop (Fd.at_ c t + 1)).count c + 1 := by
  conv => lhs; rw [split_at h]
  rw [List.count_append, List.count_cons_self, List.count_eq_zero.2 (fun k => free_at c k rfl)]
  omega
/-- a first line with just two blanks -/
theorem cut_three {t : List UInt8} (h : t.count 32 = 2) : Fd.at_ 32 t < t.length ∧ Fd.at_ 32 (t.drop (Fd.at_ 32 t + 1)) < (t.drop (Fd.at_ 32 t + 1)).length ∧
    cut [] t = [t.take (Fd.at_ 32 t), (t.drop (Fd.at_ 32 t + 1)).take (Fd.at_ 32 (t.drop (Fd.at_ 32 t + 1))), (t.drop (Fd.at_ 32 t + 1)).drop (Fd.at_ 32 (t.drop (Fd.at_ 32 t + 1)) + 1)] := by
  have h1 := count_at (c := 32) (t := t) (by omega)
  have e1 := count_rest h1
  have h2 := count_at (c := 32) (t := t.drop (Fd.at_ 32 t + 1)) (by omega)
  have e2 := count_rest h2
  refine ⟨h1, h2, ?_⟩
  have s1 := split_at h1
  have s2 := split_at h2
  have h3 : ∀ b ∈ (t.drop (Fd.at_ 32 t + 1)).drop (Fd.at_ 32 (t.drop (Fd.at_ 32 t + 1)) + 1), b ≠ 32 := fun b hb e => by
    have : 0 < ((t.drop (Fd.at_ 32 t + 1)).drop (Fd.at_ 32 (t.drop (Fd.at_ 32 t + 1)) + 1)).count 32 := List.count_pos_iff.2 (e ▸ hb)
    omega
  conv => lhs; rw [s1]
  rw [cut_word _ [] _ free_at, s2, cut_word _ [] _ free_at, cut_end _ [] h3]
  simp only [List.nil_append]
  rw [← s2]
theorem first_no {t : List UInt8} (h : t.count 32 ≠ 2) : first t = .inl 5 := by
  have := cut_len t []
  unfold first
  split
  · rename_i e; rw [e] at this; simp at this; omega
  · rfl
/-- a first line by its three pieces -/
def firstBy (m g v : List UInt8) : Nat ⊕ Hd :=
  if Ch.isToken m = false then .inl 6
  else if g.head? ≠ some 47 ∨ 9 ∈ g then .inl 5
  else if v = [72, 84, 84, 80, 47, 49, 46, 49] then .inr ⟨m, g, 1, [], 0⟩
  else if v = [72, 84, 84, 80, 47, 49, 46, 48] then .inr ⟨m, g, 0, [], 0⟩
  else .inl 11
theorem first_three {t : List UInt8} (h : t.count 32 = 2) : first t = firstBy (t.take (Fd.at_ 32 t)) ((t.drop (Fd.at_ 32 t + 1)).take (Fd.at_ 32 (t.drop (Fd.at_ 32 t + 1)))) ((t.drop (Fd.at_ 32 t + 1)).drop (Fd.at_ 32 (t.drop (Fd.at_ 32 t + 1)) + 1)) := by
  unfold first
  rw [(cut_three h).2.2]
  rfl
theorem first_good {t : List UInt8} {h : Hd} (ht : t.length ≤ 200) (e : first t = .inr h) : HGood h ∧ h.length = 0 := by
  by_cases hc : t.count 32 = 2
  · rw [first_three hc] at e
    unfold firstBy at e
    have l1 : (t.take (Fd.at_ 32 t)).length ≤ 200 := by rw [List.length_take]; omega
    have l2 : ((t.drop (Fd.at_ 32 t + 1)).take (Fd.at_ 32 (t.drop (Fd.at_ 32 t + 1)))).length ≤ 200 := by rw [List.length_take, List.length_drop]; omega
    split at e
    · cases e
    · split at e
      · cases e
      · split at e
        · injection e with e; subst e
          exact ⟨⟨l1, l2, Nat.le_refl _, Nat.zero_le _, fun f hf => by cases hf⟩, rfl⟩
        · split at e
          · injection e with e; subst e
            exact ⟨⟨l1, l2, Nat.zero_le _, Nat.zero_le _, fun f hf => by cases hf⟩, rfl⟩
          · cases e
  · rw [first_no hc] at e; cases e
theorem sizes_le : ∀ (f : List UInt8) (l : List (List UInt8)) (n k : Int), 0 ≤ n → sizes f n l = .inr k → 0 ≤ k
  | f, [], n, k, h0, e => by injection e with e; omega
  | f, v :: t, n, k, h0, e => by
    rw [sizes] at e
    split at e
    · cases e
    · split at e
      · cases e
      · refine sizes_le f t _ k ?_ e
        have : (Ch.number 10 9 v).1 = 0 ∨ (Ch.number 10 9 v).1 = Ch.numOf 10 v ∧ v.all (Ch.dig 10) = true ∧ v.length ≤ 9 := by
          by_cases g1 : v = [] ∨ (9 : Int) < v.length
          · rw [Ch.number_short 10 9 v g1]; exact Or.inl rfl
          · cases g2 : v.all (Ch.dig 10)
            · rw [Ch.number_no 10 9 v g2]; exact Or.inl rfl
            · rw [Ch.number_yes 10 9 v (fun e => g1 (Or.inl e)) (fun e => g1 (Or.inr e)) g2]
              exact Or.inr ⟨rfl, rfl, by omega⟩
        rcases this with g | ⟨g, g2, g3⟩
        · omega
        · rw [g]; exact (Ch.numOf_bound 10 (by omega) (by omega) v g2 g3).1
/-- a length that is told -/
theorem len_range {h : Hd} {k : Int} (e : len h = .inr k) : k = -1 ∨ 0 ≤ k ∧ k ≤ 4000 := by
  unfold len at e
  split at e
  · cases e
  · split at e
    · split at e
      · cases e
      · split at e
        · cases e
        · injection e with e; exact Or.inl e.symm
    · split at e
      · cases e
      · rename_i n hn
        split at e
        · cases e
        · injection e with e; subst e
          exact Or.inr ⟨sizes_le _ _ 0 _ (by omega) hn, by omega⟩
theorem Good.dead {s : St} (h : Good s) : Good (dead s) := ⟨Nat.le_refl _, h.ln, h.lc, (fun e => by cases e), (fun e => by cases e), (fun e => by cases e)⟩
theorem Good.line {s : St} (h : Good s) (hp : s.ph = 0 ∨ s.ph = 1) (t : List UInt8) (ht : t.length ≤ 200) : Good (line s t).1 ∧ ∀ e ∈ (line s t).2, e.Fine := by
  unfold Rq.line
  by_cases h0 : s.ph = 0
  · rw [if_pos h0]
    by_cases hn : t = []
    · rw [if_pos hn]; exact ⟨h, fun e he => by cases he⟩
    · rw [if_neg hn]
      cases hf : first t with
      | inl c => exact ⟨h.dead, fun e he => by simp at he; subst he; exact trivial⟩
      | inr hd => exact ⟨⟨by show 1 ≤ 4; omega, h.ln, h.lc, fun _ => first_good ht hf, (fun e => by cases e), (fun e => by cases e)⟩, fun e he => by cases he⟩
  · rw [if_neg h0]
    obtain ⟨hg, hl0⟩ := h.hd (by omega)
    have hH : ∀ k : Int, HGood { s.hd with length := k } := fun k => ⟨hg.method, hg.target, hg.minor, hg.many, hg.fields⟩
    by_cases hn : t = []
    · rw [if_pos hn]
      cases hk : len s.hd with
      | inl c => exact ⟨h.dead, fun e he => by simp at he; subst he; exact trivial⟩
      | inr k =>
        have hr := len_range hk
        simp only
        by_cases k0 : k = 0
        · rw [if_pos k0]
          refine ⟨⟨Nat.zero_le _, h.ln, h.lc, (fun e => by cases e), (fun e => by cases e), (fun e => by cases e)⟩, fun e he => ?_⟩
          simp at he
          rcases he with rfl | rfl
          · exact hH k
          · exact trivial
        · rw [if_neg k0]
          by_cases k1 : 0 < k
          · rw [if_pos k1]
            refine ⟨⟨by show 2 ≤ 4; omega, h.ln, h.lc, (fun e => by cases e), fun _ => ⟨by show 0 < k.toNat; omega, by show k.toNat ≤ 4000; omega⟩, (fun e => by cases e)⟩, fun e he => ?_⟩
            simp at he
            subst he
            exact hH k
          · rw [if_neg k1]
            refine ⟨⟨by show 3 ≤ 4; omega, h.ln, h.lc, (fun e => by cases e), (fun e => by cases e), fun _ => ⟨Ck.Good.start, rfl, by show (0 : Nat) ≠ 4; omega⟩⟩, fun e he => ?_⟩
            simp at he
            subst he
            exact hH k
    · rw [if_neg hn]
      split
      · exact ⟨h.dead, fun e he => by simp at he; subst he; exact trivial⟩
      · rename_i h16
        split
        · exact ⟨h.dead, fun e he => by simp at he; subst he; exact trivial⟩
        · have := Fd.of_length t
          refine ⟨⟨h.ph, h.ln, h.lc, fun _ => ⟨⟨hg.method, hg.target, hg.minor, ?_, fun f hf => ?_⟩, hl0⟩, h.left, h.ck⟩, fun e he => by cases he⟩
          · have := hg.many
            show (s.hd.fields ++ [((Fd.of t).name, (Fd.of t).value)]).length ≤ 16
            rw [List.length_append]; simp; omega
          · rcases List.mem_append.1 hf with hf | hf
            · exact hg.fields f hf
            · simp at hf; subst hf; exact ⟨Nat.le_trans this.1 ht, Nat.le_trans this.2 ht⟩
theorem text_short {s : Ln.St} {c : UInt8} (h : Ln.Good s) : (Ln.text s c).length ≤ 200 ∧ ∀ b ∈ Ln.text s c, Ch.visible b.toNat = true := by
  unfold Ln.text
  split
  · exact ⟨h.short, h.seen⟩
  · exact ⟨Nat.zero_le _, fun b hb => by cases hb⟩
theorem Good.next {s : St} (h : Good s) (c : UInt8) : Good (next s c).1 ∧ ∀ e ∈ (next s c).2, e.Fine := by
  have h0 : Good { s with ph := 0 } := ⟨Nat.zero_le _, h.ln, h.lc, (fun e => by cases e), (fun e => by cases e), (fun e => by cases e)⟩
  unfold Rq.next
  split
  · exact ⟨h, fun e he => by cases he⟩
  · split
    · rename_i h2
      obtain ⟨l1, l2⟩ := h.left h2
      split
      · refine ⟨⟨Nat.zero_le _, h.ln, h.lc, (fun e => by cases e), (fun e => by cases e), (fun e => by cases e)⟩, fun e he => ?_⟩
        simp at he
        rcases he with rfl | rfl <;> exact trivial
      · refine ⟨⟨h.ph, h.ln, h.lc, h.hd, fun _ => ⟨by show 0 < s.left - 1; omega, by show s.left - 1 ≤ 4000; omega⟩, h.ck⟩, fun e he => ?_⟩
        simp at he
        subst he; exact trivial
    · split
      · rename_i h3
        obtain ⟨k1, k2, k3⟩ := h.ck h3
        split
        · exact ⟨h.dead, fun e he => by simp at he; subst he; exact trivial⟩
        · split
          · exact ⟨h0, fun e he => by simp at he; subst he; exact trivial⟩
          · rename_i hA hB
            refine ⟨⟨h.ph, h.ln, h.lc, h.hd, h.left, fun _ => ⟨k1.next c, by show (Ck.next s.ck c).code = 0; omega, hB⟩⟩, fun e he => ?_⟩
            unfold some_ at he
            split at he
            · cases he
            · simp at he; subst he; exact trivial
      · rename_i h4 h2 h3
        have hp := h.ph
        split
        · exact ⟨h.dead, fun e he => by simp at he; subst he; exact trivial⟩
        · split
          · have hs : Good { s with ln := Ln.start } := ⟨h.ph, Ln.Good.start, rfl, h.hd, h.left, h.ck⟩
            exact hs.line (by show s.ph = 0 ∨ s.ph = 1; omega) _ (text_short h.ln).1
          · exact ⟨⟨h.ph, Ln.next_good h.ln, by rename_i a _; show (Ln.next s.ln c).code = 0; omega, h.hd, h.left, h.ck⟩, fun e he => by cases he⟩
theorem Good.fold : ∀ (l : List UInt8) {s : St}, Good s → Good (fold s l)
  | [], _, h => h
  | c :: t, s, h => Good.fold t (s := (Rq.next s c).1) (h.next c).1
theorem fine_outs : ∀ (l : List UInt8) {s : St}, Good s → ∀ e ∈ outs s l, e.Fine
  | [], _, _ => fun e he => by cases he
  | c :: t, s, h => fun e he => by
    rcases List.mem_append.1 he with he | he
    · exact (h.next c).2 e he
    · exact fine_outs t (h.next c).1 e he
theorem fine_join : ∀ (l : List Ev), (∀ e ∈ l, e.Fine) → ∀ e ∈ join l, e.Fine
  | [], _ => fun e he => by cases he
  | .head h :: r, k => fun e he => by
    rw [join] at he
    rcases List.mem_cons.1 he with rfl | he
    · exact k _ (List.mem_cons_self ..)
    · exact fine_join r (fun x hx => k x (List.mem_cons_of_mem _ hx)) e he
  | .fin :: r, k => fun e he => by
    rw [join] at he
    rcases List.mem_cons.1 he with rfl | he
    · exact trivial
    · exact fine_join r (fun x hx => k x (List.mem_cons_of_mem _ hx)) e he
  | .fail c :: r, k => fun e he => by
    rw [join] at he
    rcases List.mem_cons.1 he with rfl | he
    · exact trivial
    · exact fine_join r (fun x hx => k x (List.mem_cons_of_mem _ hx)) e he
  | .body a :: r, k => fun e he => by
    have ih := fine_join r (fun x hx => k x (List.mem_cons_of_mem _ hx))
    rw [join] at he
    cases hj : join r with
    | nil => rw [hj] at he; simp at he; subst he; exact trivial
    | cons y q =>
      rw [hj] at he ih
      cases y with
      | body b =>
        rcases List.mem_cons.1 he with rfl | he
        · exact trivial
        · exact ih e (List.mem_cons_of_mem _ he)
      | head h =>
        rcases List.mem_cons.1 he with rfl | he
        · exact trivial
        · exact ih e he
      | fin =>
        rcases List.mem_cons.1 he with rfl | he
        · exact trivial
        · exact ih e he
      | fail c =>
        rcases List.mem_cons.1 he with rfl | he
        · exact trivial
        · exact ih e he
end Go.Proofs.YtjpenioloeplgadGreatDoor.Rq

/- Plain laws of requests of a stream: what all bytes bring, step by step as the document's own answer goes. -/
namespace Go.Proofs.YtjpenioloeplgadGreatDoor
theorem Ln.go_text_200 (l : List UInt8) : ∀ (t : List UInt8) (i : Nat), i ≤ 200 → (Ln.go l i t).text.length ≤ 200
  | [], i, _ => Nat.zero_le _
  | c :: t, i, hi => by
    unfold Ln.go
    split
    · split
      · exact Nat.zero_le _
      · split
        · show (l.take i).length ≤ 200
          rw [List.length_take]; omega
        · exact Nat.zero_le _
    · split
      · exact Nat.zero_le _
      · split
        · exact Nat.zero_le _
        · split
          · exact Nat.zero_le _
          · exact Ln.go_text_200 l t (i + 1) (by omega)
theorem Ln.of_text_200 (l : List UInt8) : (Ln.of l).text.length ≤ 200 := Ln.go_text_200 l l 0 (by omega)
theorem Ck.trail_used : ∀ (f : Nat) (l : List UInt8) (n : Nat), (Ck.trail f l n).used ≤ l.length
  | 0, _, _ => Nat.zero_le _
  | f + 1, l, n => by
    have hl := Ln.of_le l
    unfold Ck.trail
    split
    · exact hl
    · split
      · exact hl
      · split
        · exact hl
        · split
          · exact hl
          · have := Ck.trail_used f (l.drop (Ln.of l).size) (n + 1)
            rw [List.length_drop] at this
            show (Ln.of l).size + (Ck.trail f (l.drop (Ln.of l).size) (n + 1)).used ≤ l.length
            omega
theorem Ck.go_used : ∀ (f : Nat) (l : List UInt8) (n : Nat), (Ck.go f l n).used ≤ l.length
  | 0, _, _ => Nat.zero_le _
  | f + 1, l, n => by
    have hl := Ln.of_le l
    unfold Ck.go
    split
    · exact hl
    · split
      · exact hl
      · split
        · exact hl
        · split
          · have := Ck.trail_used (f + 1) (l.drop (Ln.of l).size) 0
            rw [List.length_drop] at this
            show (Ln.of l).size + (Ck.trail (f + 1) (l.drop (Ln.of l).size) 0).used ≤ l.length
            omega
          · have hd : (l.drop (Ln.of l).size).length = l.length - (Ln.of l).size := List.length_drop
            simp only
            split
            · show (Ln.of l).size + (l.drop (Ln.of l).size).length ≤ l.length
              omega
            · rename_i hk
              have he := Ln.of_le ((l.drop (Ln.of l).size).drop (Ck.size (Ln.of l).text).1.toNat)
              rw [List.length_drop] at he
              split
              · show (Ln.of l).size + (Ck.size (Ln.of l).text).1.toNat + (Ln.of ((l.drop (Ln.of l).size).drop (Ck.size (Ln.of l).text).1.toNat)).size ≤ l.length
                omega
              · split
                · show (Ln.of l).size + (Ck.size (Ln.of l).text).1.toNat + (Ln.of ((l.drop (Ln.of l).size).drop (Ck.size (Ln.of l).text).1.toNat)).size ≤ l.length
                  omega
                · have hr := Ck.go_used f (((l.drop (Ln.of l).size).drop (Ck.size (Ln.of l).text).1.toNat).drop (Ln.of ((l.drop (Ln.of l).size).drop (Ck.size (Ln.of l).text).1.toNat)).size) (n + (Ck.size (Ln.of l).text).1.toNat)
                  rw [List.length_drop, List.length_drop] at hr
                  show (Ln.of l).size + (Ck.size (Ln.of l).text).1.toNat + (Ln.of ((l.drop (Ln.of l).size).drop (Ck.size (Ln.of l).text).1.toNat)).size + (Ck.go f _ _).used ≤ l.length
                  omega
theorem Ck.used_of (l : List UInt8) : (Ck.of l).used ≤ l.length := Ck.go_used _ l 0
end Go.Proofs.YtjpenioloeplgadGreatDoor
namespace Go.Proofs.YtjpenioloeplgadGreatDoor.Rq
theorem first_code {t : List UInt8} {c : Nat} (h : first t = .inl c) : c ≠ 0 := by
  unfold first at h
  split at h
  · split at h
    · injection h with h; omega
    · split at h
      · injection h with h; omega
      · split at h
        · cases h
        · split at h
          · cases h
          · injection h with h; omega
  · injection h with h; omega
theorem HGood.more {h : Hd} (hg : HGood h) (t : List UInt8) (ht : t.length ≤ 200) (h16 : h.fields.length ≠ 16) : HGood { h with fields := h.fields ++ [((Fd.of t).name, (Fd.of t).value)] } := by
  have := Fd.of_length t
  refine ⟨hg.method, hg.target, hg.minor, ?_, fun f hf => ?_⟩
  · have := hg.many
    show (h.fields ++ [((Fd.of t).name, (Fd.of t).value)]).length ≤ 16
    rw [List.length_append]; simp; omega
  · rcases List.mem_append.1 hf with hf | hf
    · exact hg.fields f hf
    · simp at hf; subst hf; exact ⟨Nat.le_trans this.1 ht, Nat.le_trans this.2 ht⟩

/-- behind a body: its code, is it over, what follows -/
def rest (f : Nat) (r : List UInt8) (over : Bool) (c : Nat) : List Ev × Bool :=
  if c ≠ 0 then ([.fail c], false) else if over = false then ([], true) else (.fin :: (go f r).1, (go f r).2)
/-- behind a head: its body -/
def goB (f : Nat) (h : Hd) (r : List UInt8) : List Ev × Bool :=
  match len h with
  | .inl c => ([.fail c], false)
  | .inr k =>
    if 0 ≤ k then
      (if k.toNat ≤ r.length then (.head { h with length := k } :: some_ (r.take k.toNat) ++ (rest f (r.drop k.toNat) true 0).1, (rest f (r.drop k.toNat) true 0).2)
       else (.head { h with length := k } :: some_ r ++ (rest f [] false 0).1, (rest f [] false 0).2))
    else (.head { h with length := k } :: some_ (Ck.of r).body ++ (rest f (r.drop (Ck.of r).used) (Ck.of r).over (Ck.of r).code).1, (rest f (r.drop (Ck.of r).used) (Ck.of r).over (Ck.of r).code).2)
/-- behind a first line -/
def goH (f : Nat) (h : Hd) : Fs → List Ev × Bool
  | .fail c => ([.fail c], false)
  | .open_ => ([], true)
  | .ok fs r => goB f { h with fields := fs } r
theorem len_code {h : Hd} {c : Nat} (e : len h = .inl c) : c ≠ 0 := by
  unfold len at e
  split at e
  · injection e with e; omega
  · split at e
    · split at e
      · injection e with e; omega
      · split at e
        · injection e with e; omega
        · cases e
    · split at e
      · rename_i d hd
        injection e with e
        subst e
        have key : ∀ (f : List UInt8) (l : List (List UInt8)) (n : Int) (c : Nat), sizes f n l = .inl c → c ≠ 0 := by
          intro f l
          induction l with
          | nil => intro n c e; cases e
          | cons v t ih =>
            intro n c e
            unfold sizes at e
            split at e
            · injection e with e; omega
            · split at e
              · injection e with e; omega
              · exact ih _ _ e
        exact key _ _ _ _ hd
      · split at e
        · injection e with e; omega
        · cases e
theorem goH_fields (f : Nat) (h : Hd) (x : List Fl) (F : Fs) : goH f { h with fields := x } F = goH f h F := by cases F <;> rfl
theorem go_code {f : Nat} {l : List UInt8} (h : (Ln.of l).code ≠ 0) : go (f + 1) l = ([.fail (Ln.of l).code], false) := by rw [go, if_pos h]
theorem go_open {f : Nat} {l : List UInt8} (h : (Ln.of l).code = 0) (e : (Ln.of l).ended = false) : go (f + 1) l = ([], decide (l ≠ [])) := by rw [go, if_neg (by omega), if_pos e]
theorem go_empty {f : Nat} {l : List UInt8} (h : (Ln.of l).code = 0) (e : (Ln.of l).ended = true) (t : (Ln.of l).text = []) : go (f + 1) l = go f (l.drop (Ln.of l).size) := by rw [go, if_neg (by omega), if_neg (by rw [e]; simp), if_pos t]
theorem go_bad {f : Nat} {l : List UInt8} {c : Nat} (h : (Ln.of l).code = 0) (e : (Ln.of l).ended = true) (t : (Ln.of l).text ≠ []) (k : first (Ln.of l).text = .inl c) : go (f + 1) l = ([.fail c], false) := by
  rw [go, if_neg (by omega), if_neg (by rw [e]; simp), if_neg t, k]
theorem go_first {f : Nat} {l : List UInt8} {d : Hd} (h : (Ln.of l).code = 0) (e : (Ln.of l).ended = true) (t : (Ln.of l).text ≠ []) (k : first (Ln.of l).text = .inr d) : go (f + 1) l = goH f d (flds (f + 1) (l.drop (Ln.of l).size) []) := by
  rw [go, if_neg (by omega), if_neg (by rw [e]; simp), if_neg t, k]
  cases flds (f + 1) (l.drop (Ln.of l).size) [] with
  | fail c => rfl
  | open_ => rfl
  | ok fs r =>
    show _ = goB f { d with fields := fs } r
    unfold goB
    dsimp only
    generalize len { method := d.method, target := d.target, minor := d.minor, fields := fs, length := d.length } = L
    cases L with
    | inl c => rfl
    | inr k =>
      simp only [rest]
      by_cases h1 : 0 ≤ k
      · rw [if_pos h1, if_pos h1]
        by_cases h2 : k.toNat ≤ r.length
        · rw [if_pos h2, if_pos h2]; simp
        · rw [if_neg h2, if_neg h2]; simp
      · rw [if_neg h1, if_neg h1]
        by_cases h2 : (Ck.of r).code = 0
        · rw [if_neg (by omega)]
          by_cases h3 : (Ck.of r).over = false
          · rw [if_pos h3]; simp [h2, h3]
          · rw [if_neg h3]
            have h3' : (Ck.of r).over = true := by simpa using h3
            simp [h2, h3']
        · rw [if_pos h2]; simp [h2]
theorem flds_code {f : Nat} {l : List UInt8} {fs : List Fl} (h : (Ln.of l).code ≠ 0) : flds (f + 1) l fs = .fail (Ln.of l).code := by rw [flds, if_pos h]
theorem flds_open {f : Nat} {l : List UInt8} {fs : List Fl} (h : (Ln.of l).code = 0) (e : (Ln.of l).ended = false) : flds (f + 1) l fs = .open_ := by rw [flds, if_neg (by omega), if_pos e]
theorem flds_end {f : Nat} {l : List UInt8} {fs : List Fl} (h : (Ln.of l).code = 0) (e : (Ln.of l).ended = true) (t : (Ln.of l).text = []) : flds (f + 1) l fs = .ok fs (l.drop (Ln.of l).size) := by rw [flds, if_neg (by omega), if_neg (by rw [e]; simp), if_pos t]
theorem flds_many {f : Nat} {l : List UInt8} {fs : List Fl} (h : (Ln.of l).code = 0) (e : (Ln.of l).ended = true) (t : (Ln.of l).text ≠ []) (m : fs.length = 16) : flds (f + 1) l fs = .fail 8 := by rw [flds, if_neg (by omega), if_neg (by rw [e]; simp), if_neg t, if_pos m]
theorem flds_bad {f : Nat} {l : List UInt8} {fs : List Fl} (h : (Ln.of l).code = 0) (e : (Ln.of l).ended = true) (t : (Ln.of l).text ≠ []) (m : fs.length ≠ 16) (k : (Fd.of (Ln.of l).text).code ≠ 0) : flds (f + 1) l fs = .fail (Fd.of (Ln.of l).text).code := by rw [flds, if_neg (by omega), if_neg (by rw [e]; simp), if_neg t, if_neg m, if_pos k]
theorem flds_more {f : Nat} {l : List UInt8} {fs : List Fl} (h : (Ln.of l).code = 0) (e : (Ln.of l).ended = true) (t : (Ln.of l).text ≠ []) (m : fs.length ≠ 16) (k : (Fd.of (Ln.of l).text).code = 0) : flds (f + 1) l fs = flds f (l.drop (Ln.of l).size) (fs ++ [((Fd.of (Ln.of l).text).name, (Fd.of (Ln.of l).text).value)]) := by rw [flds, if_neg (by omega), if_neg (by rw [e]; simp), if_neg t, if_neg m, if_neg (by omega)]
end Go.Proofs.YtjpenioloeplgadGreatDoor.Rq
