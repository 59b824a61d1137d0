/- Small texts, one behind the other: PlainRB, PlainRC, PlainRD, PlainRE, PlainRpB, PlainRpC. -/
import Derived.Test.YtjhbiipbmlpgoaaDoorPlainRA
import Derived.Test.YtjhbiipbmlpgoaaDoorPk2
import Derived.Test.YtjhbiipbmlpgoaaDoorPk1
/- Plain laws of requests of a stream: what a reader's bytes bring, joined, a piece at a time. -/
namespace Go.Proofs.YtjhbiipbmlpgoaaDoor.Rq

/-- does it not begin with a body? -/
def Apart : List Ev → Prop
  | .body _ :: _ => False
  | _ => True
theorem join_body {a : List UInt8} {r : List Ev} (h : Apart (join r)) : join (.body a :: r) = .body a :: join r := by
  rw [join]
  cases hj : join r with
  | nil => rfl
  | cons e q => cases e with
    | body b => rw [hj] at h; exact absurd h (fun h => h)
    | head h => rfl
    | fin => rfl
    | fail c => rfl
theorem join_more {a b : List UInt8} {r : List Ev} : join (.body a :: .body b :: r) = join (.body (a ++ b) :: r) := by
  have e : ∀ x : List UInt8, join (.body x :: r) = match join r with | .body y :: q => .body (x ++ y) :: q | q => .body x :: q := fun x => by
    rw [join]
    cases join r with
    | nil => rfl
    | cons e q => cases e <;> rfl
  rw [join, e b, e (a ++ b)]
  cases hj : join r with
  | nil => rfl
  | cons e q => cases e with
    | body y => simp
    | head h => rfl
    | fin => rfl
    | fail c => rfl
/-- bytes, one event each -/
def ones (l : List UInt8) : List Ev := l.map fun c => .body [c]
theorem join_ones_body : ∀ (l : List UInt8) (a : List UInt8) (r : List Ev), join (.body a :: (ones l ++ r)) = join (.body (a ++ l) :: r)
  | [], a, r => by simp [ones]
  | c :: t, a, r => by
    have := join_ones_body t (a ++ [c]) r
    rw [List.append_assoc] at this
    rw [show ones (c :: t) ++ r = .body [c] :: (ones t ++ r) from rfl, join_more, this]
    rfl
/-- joined, they are one -/
theorem join_ones (l : List UInt8) (r : List Ev) (h : Apart (join r)) : join (ones l ++ r) = some_ l ++ join r := by
  cases l with
  | nil => rfl
  | cons c t =>
    rw [show ones (c :: t) ++ r = .body [c] :: (ones t ++ r) from rfl, join_ones_body, join_body h]
    rfl
theorem apart_fin (r : List Ev) : Apart (join (.fin :: r)) := trivial
theorem apart_fail (c : Nat) (r : List Ev) : Apart (join (.fail c :: r)) := trivial
theorem apart_nil : Apart (join []) := trivial
theorem join_head (h : Hd) (r : List Ev) : join (.head h :: r) = .head h :: join r := by rw [join]
theorem join_fin (r : List Ev) : join (.fin :: r) = .fin :: join r := by rw [join]
theorem join_fail (c : Nat) (r : List Ev) : join (.fail c :: r) = .fail c :: join r := by rw [join]

/-- behind a code nothing comes -/
theorem dead_run : ∀ (l : List UInt8) (s : St), s.ph = 4 → outs s l = [] ∧ fold s l = s
  | [], s, _ => ⟨rfl, rfl⟩
  | c :: t, s, h => by
    have e : next s c = (s, []) := by unfold next; rw [if_pos h]
    have ih := dead_run t s h
    constructor
    · show (next s c).2 ++ outs (next s c).1 t = []
      rw [e]; exact ih.1
    · show fold (next s c).1 t = s
      rw [e]; exact ih.2
/-- at a line -/
structure AtLine (s : St) : Prop where
  ph : s.ph = 0 ∨ s.ph = 1
  ln : s.ln = Ln.start
theorem ln_same {s : St} (h : s.ln = Ln.start) : { s with ln := Ln.start } = s := by
  cases s; simp only at h; subst h; rfl
/-- the bytes of a line bring nothing -/
theorem in_line {s : St} (h : AtLine s) (l : List UInt8) : ∀ j, j ≤ l.length → ((Ln.of l).size = 0 ∨ j < (Ln.of l).size) →
    outs s (l.take j) = [] ∧ fold s (l.take j) = { s with ln := Ln.fold Ln.start (l.take j) }
  | 0, _, _ => ⟨rfl, (ln_same h.ln).symm⟩
  | j + 1, hj, hs => by
    have hlt : j < l.length := by omega
    obtain ⟨h1, h2⟩ := in_line h l j (by omega) (by omega)
    obtain ⟨hE, hC⟩ := Ln.fold_quiet l j hlt (by omega)
    have hp := h.ph
    have e : next { s with ln := Ln.fold Ln.start (l.take j) } l[j] = ({ s with ln := Ln.next (Ln.fold Ln.start (l.take j)) l[j] }, []) := by
      unfold next
      rw [if_neg (by show ¬ s.ph = 4; omega), if_neg (by show ¬ s.ph = 2; omega), if_neg (by show ¬ s.ph = 3; omega), if_neg (fun e => e hC), if_neg (by rw [hE]; simp)]
    rw [List.take_succ_eq_append_getElem hlt, outs_append, fold_append, h1, h2, Ln.fold_snoc]
    constructor
    · show [] ++ ((next { s with ln := Ln.fold Ln.start (l.take j) } l[j]).2 ++ []) = []
      rw [e]; rfl
    · show (next { s with ln := Ln.fold Ln.start (l.take j) } l[j]).1 = _
      rw [e]
/-- no line yet -/
theorem line_open {s : St} (h : AtLine s) (l : List UInt8) (ho : (Ln.of l).size = 0) : outs s l = [] ∧ fold s l = { s with ln := Ln.fold Ln.start l } := by
  have := in_line h l l.length (Nat.le_refl _) (Or.inl ho)
  rwa [List.take_length] at this
/-- a line, or a code -/
theorem line_told {s : St} (h : AtLine s) (l : List UInt8) (ho : 0 < (Ln.of l).size) :
    ((Ln.of l).code ≠ 0 → outs s l = [.fail (Ln.of l).code] ∧ (fold s l).ph = 4) ∧
    ((Ln.of l).code = 0 → outs s l = (line s (Ln.of l).text).2 ++ outs (line s (Ln.of l).text).1 (l.drop (Ln.of l).size) ∧ fold s l = fold (line s (Ln.of l).text).1 (l.drop (Ln.of l).size)) := by
  obtain ⟨j, hj⟩ : ∃ j, (Ln.of l).size = j + 1 := ⟨(Ln.of l).size - 1, by omega⟩
  have hle := Ln.of_le l
  have hlt : j < l.length := by omega
  have hp := h.ph
  obtain ⟨h1, h2⟩ := in_line h l j (by omega) (Or.inr (by omega))
  obtain ⟨hE, hC, hT⟩ := Ln.fold_last l j hlt hj.symm
  have hn : next { s with ln := Ln.fold Ln.start (l.take j) } l[j] = if (Ln.of l).code ≠ 0 then (dead { s with ln := Ln.fold Ln.start (l.take j) }, [.fail (Ln.of l).code]) else line s (Ln.of l).text := by
    unfold next
    rw [if_neg (by show ¬ s.ph = 4; omega), if_neg (by show ¬ s.ph = 2; omega), if_neg (by show ¬ s.ph = 3; omega)]
    show (if (Ln.next (Ln.fold Ln.start (l.take j)) l[j]).code ≠ 0 then _ else if Ln.ends (Ln.fold Ln.start (l.take j)) l[j] = true then line { s with ln := Ln.start } (Ln.text (Ln.fold Ln.start (l.take j)) l[j]) else _) = _
    rw [hC, hE, hT, ln_same h.ln]
    by_cases hc : (Ln.of l).code = 0
    · have hcn : ¬ (Ln.of l).code ≠ 0 := fun e => e hc
      simp only [if_neg hcn]
      rcases Ln.of_kind l with hk | hk | hk
      · omega
      · rw [if_pos hk.2]
      · exact absurd hc hk.1
    · simp only [if_pos hc]
  have hsplit : l = l.take j ++ l[j] :: l.drop (j + 1) := by
    rw [← List.drop_eq_getElem_cons hlt, List.take_append_drop]
  have ho2 : outs s l = (next { s with ln := Ln.fold Ln.start (l.take j) } l[j]).2 ++ outs (next { s with ln := Ln.fold Ln.start (l.take j) } l[j]).1 (l.drop (j + 1)) := by
    conv => lhs; rw [hsplit, outs_append, h1, h2]
    rfl
  have hf2 : fold s l = fold (next { s with ln := Ln.fold Ln.start (l.take j) } l[j]).1 (l.drop (j + 1)) := by
    conv => lhs; rw [hsplit, fold_append, h2]
    rfl
  rw [ho2, hf2, hn, hj]
  constructor
  · intro hc
    rw [if_pos hc]
    have := dead_run (l.drop (j + 1)) (dead { s with ln := Ln.fold Ln.start (l.take j) }) rfl
    exact ⟨by rw [this.1]; rfl, by rw [this.2]; rfl⟩
  · intro hc
    rw [if_neg (fun e => e hc)]
    exact ⟨rfl, rfl⟩
/-- in a body of a length -/
theorem sized : ∀ (k : Nat) (l : List UInt8) (s : St), s.ph = 2 → s.left = k + 1 →
    (l.length < k + 1 → outs s l = ones l ∧ (fold s l).ph = 2) ∧
    (k + 1 ≤ l.length → outs s l = ones (l.take (k + 1)) ++ .fin :: outs { s with ph := 0, left := 0 } (l.drop (k + 1)) ∧ fold s l = fold { s with ph := 0, left := 0 } (l.drop (k + 1)))
  | k, [], s, h, _ => ⟨fun _ => ⟨rfl, h⟩, fun e => by simp at e⟩
  | k, c :: t, s, h, hk => by
    cases k with
    | zero =>
      have e : next s c = ({ s with ph := 0, left := 0 }, [.body [c], .fin]) := by
        unfold next; rw [if_neg (by omega), if_pos h, if_pos (by omega)]
      refine ⟨fun hl => by simp at hl, fun _ => ⟨?_, ?_⟩⟩
      · show (next s c).2 ++ outs (next s c).1 t = _
        rw [e]; rfl
      · show fold (next s c).1 t = _
        rw [e]; rfl
    | succ k =>
      have e : next s c = ({ s with left := k + 1 }, [.body [c]]) := by
        unfold next; rw [if_neg (by omega), if_pos h, if_neg (by omega), hk]; rfl
      obtain ⟨i1, i2⟩ := sized k t { s with left := k + 1 } h rfl
      refine ⟨fun hl => ?_, fun hl => ?_⟩
      · obtain ⟨a, b⟩ := i1 (by simp at hl; omega)
        constructor
        · show (next s c).2 ++ outs (next s c).1 t = _
          rw [e]; show [Ev.body [c]] ++ outs { s with left := k + 1 } t = _
          rw [a]; rfl
        · show (fold (next s c).1 t).ph = 2
          rw [e]; exact b
      · obtain ⟨a, b⟩ := i2 (by simp at hl; omega)
        constructor
        · show (next s c).2 ++ outs (next s c).1 t = _
          rw [e]; show [Ev.body [c]] ++ outs { s with left := k + 1 } t = _
          rw [a]; rfl
        · show fold (next s c).1 t = _
          rw [e]; exact b
end Go.Proofs.YtjhbiipbmlpgoaaDoor.Rq

/- Plain laws of requests of a stream: a reader byte by byte, joined, tells what the document's own answer tells of all bytes. -/
namespace Go.Proofs.YtjhbiipbmlpgoaaDoor.Rq

theorem out_over {s : Ck.St} {c : UInt8} (h4 : s.ph ≠ 4) (hc : s.code = 0) (h : (Ck.next s c).ph = 4) : Ck.out s c = [] := by
  unfold Ck.out
  rw [if_neg]
  rintro ⟨_, h1⟩
  unfold Ck.next at h
  rw [if_neg (fun e => e hc), if_neg h4, if_pos h1] at h
  have : (if s.left ≤ 1 then 2 else 1) = 4 := h
  split at this <;> omega
theorem ones_some (l : List UInt8) (h : l.length ≤ 1) : some_ l = ones l := by
  match l, h with
  | [], _ => rfl
  | [c], _ => rfl
theorem ones_append (a b : List UInt8) : ones (a ++ b) = ones a ++ ones b := by simp [ones]
/-- in a body in chunks -/
theorem chunked : ∀ (l : List UInt8) (s : St), s.ph = 3 → s.ck.code = 0 → s.ck.ph ≠ 4 →
    ((Ck.run s.ck l).code ≠ 0 → outs s l = ones (Ck.run s.ck l).body ++ [.fail (Ck.run s.ck l).code] ∧ (fold s l).ph = 4) ∧
    ((Ck.run s.ck l).code = 0 → (Ck.run s.ck l).over = true → ∃ s', s'.ph = 0 ∧ s'.ln = s.ln ∧ outs s l = ones (Ck.run s.ck l).body ++ .fin :: outs s' (l.drop (Ck.run s.ck l).used) ∧ fold s l = fold s' (l.drop (Ck.run s.ck l).used)) ∧
    ((Ck.run s.ck l).code = 0 → (Ck.run s.ck l).over = false → outs s l = ones (Ck.run s.ck l).body ∧ (fold s l).ph = 3)
  | [], s, h, _, _ => ⟨fun e => absurd rfl e, (fun _ e => by cases e), fun _ _ => ⟨rfl, h⟩⟩
  | c :: t, s, h, h0, h4 => by
    have hr : Ck.run s.ck (c :: t) = if (Ck.next s.ck c).code ≠ 0 then ⟨Ck.out s.ck c, 1, false, (Ck.next s.ck c).code⟩ else if (Ck.next s.ck c).ph = 4 then ⟨Ck.out s.ck c, 1, true, 0⟩ else ⟨Ck.out s.ck c ++ (Ck.run (Ck.next s.ck c) t).body, 1 + (Ck.run (Ck.next s.ck c) t).used, (Ck.run (Ck.next s.ck c) t).over, (Ck.run (Ck.next s.ck c) t).code⟩ := by rw [Ck.run]
    have hn : next s c = if (Ck.next s.ck c).code ≠ 0 then (dead s, [.fail (Ck.next s.ck c).code]) else if (Ck.next s.ck c).ph = 4 then ({ s with ph := 0 }, [.fin]) else ({ s with ck := Ck.next s.ck c }, some_ (Ck.out s.ck c)) := by
      unfold next; rw [if_neg (by omega), if_neg (by omega), if_pos h]
    have ho : outs s (c :: t) = (next s c).2 ++ outs (next s c).1 t := rfl
    have hf : fold s (c :: t) = fold (next s c).1 t := rfl
    rw [ho, hf, hr, hn]
    by_cases hc : (Ck.next s.ck c).code = 0
    · have hcn : ¬ (Ck.next s.ck c).code ≠ 0 := fun e => e hc
      simp only [if_neg hcn]
      by_cases hp : (Ck.next s.ck c).ph = 4
      · simp only [if_pos hp]
        refine ⟨fun e => absurd rfl e, fun _ _ => ⟨{ s with ph := 0 }, rfl, rfl, ?_, rfl⟩, fun _ e => by cases e⟩
        rw [out_over h4 h0 hp]; rfl
      · simp only [if_neg hp]
        obtain ⟨i1, i2, i3⟩ := chunked t { s with ck := Ck.next s.ck c } h hc hp
        rw [ones_some _ (Ck.out_len s.ck c), ones_append]
        refine ⟨fun e => ?_, fun e1 e2 => ?_, fun e1 e2 => ?_⟩
        · obtain ⟨a, b⟩ := i1 e
          exact ⟨by rw [a, List.append_assoc], b⟩
        · obtain ⟨s', a, b, d, g⟩ := i2 e1 e2
          refine ⟨s', a, b, ?_, ?_⟩
          · rw [d, List.append_assoc, Nat.add_comm 1, List.drop_succ_cons]
          · rw [g, Nat.add_comm 1, List.drop_succ_cons]
        · obtain ⟨a, b⟩ := i3 e1 e2
          exact ⟨by rw [a], b⟩
    · simp only [if_pos hc]
      have := dead_run t (dead s) rfl
      refine ⟨fun _ => ⟨?_, by rw [this.2]; rfl⟩, fun e => absurd e hc, fun e => absurd e hc⟩
      rw [this.1, Ck.out_code hc]; rfl
/-- in a head -/
def FsRun (s : St) (l : List UInt8) : Fs → Prop
  | .fail c => outs s l = [.fail c] ∧ (fold s l).ph = 4
  | .open_ => outs s l = [] ∧ (fold s l).ph = 1
  | .ok fs r => ∃ s1 : St, s1.ph = 1 ∧ s1.ln = Ln.start ∧ s1.hd = { s.hd with fields := fs } ∧ outs s l = (line s1 []).2 ++ outs (line s1 []).1 r ∧ fold s l = fold (line s1 []).1 r ∧ r.length < l.length
theorem fields_run : ∀ (f : Nat) (l : List UInt8) (s : St), l.length < f → AtLine s → s.ph = 1 → FsRun s l (flds f l s.hd.fields)
  | 0, l, s, hf, _, _ => by omega
  | f + 1, l, s, hf, h, h1 => by
    rw [flds]
    by_cases ho : (Ln.of l).size = 0
    · obtain ⟨e1, e2⟩ := Ck.open_of ho
      rw [if_neg (fun e => e e1), if_pos e2]
      obtain ⟨a, b⟩ := line_open h l ho
      exact ⟨a, by rw [b]; exact h1⟩
    · have hp : 0 < (Ln.of l).size := by omega
      have hle := Ln.of_le l
      obtain ⟨t1, t2⟩ := line_told h l hp
      by_cases hc : (Ln.of l).code = 0
      · rw [if_neg (fun e => e hc), if_neg (by rw [Ck.kind_of hp hc]; simp)]
        obtain ⟨a, b⟩ := t2 hc
        by_cases ht : (Ln.of l).text = []
        · rw [if_pos ht]
          rw [ht] at a b
          exact ⟨s, h1, h.ln, rfl, a, b, by rw [List.length_drop]; omega⟩
        · rw [if_neg ht]
          have hL : line s (Ln.of l).text = if s.hd.fields.length = 16 then (dead s, [.fail 8]) else if (Fd.of (Ln.of l).text).code ≠ 0 then (dead s, [.fail (Fd.of (Ln.of l).text).code]) else ({ s with hd := { s.hd with fields := s.hd.fields ++ [((Fd.of (Ln.of l).text).name, (Fd.of (Ln.of l).text).value)] } }, []) := by
            unfold line; rw [if_neg (by omega), if_neg ht]
          rw [hL] at a b
          by_cases h16 : s.hd.fields.length = 16
          · rw [if_pos h16] at a b ⊢
            have := dead_run (l.drop (Ln.of l).size) (dead s) rfl
            exact ⟨by rw [a, this.1]; rfl, by rw [b, this.2]; rfl⟩
          · rw [if_neg h16] at a b ⊢
            by_cases hfc : (Fd.of (Ln.of l).text).code = 0
            · rw [if_neg (fun e => e hfc)] at a b ⊢
              have ih := fields_run f (l.drop (Ln.of l).size) { s with hd := { s.hd with fields := s.hd.fields ++ [((Fd.of (Ln.of l).text).name, (Fd.of (Ln.of l).text).value)] } } (by rw [List.length_drop]; omega) ⟨h.ph, h.ln⟩ h1
              simp only at ih
              rw [List.nil_append] at a
              revert ih
              generalize flds f (l.drop (Ln.of l).size) (s.hd.fields ++ [((Fd.of (Ln.of l).text).name, (Fd.of (Ln.of l).text).value)]) = F
              intro ih
              cases F with
              | fail c => exact ⟨a.trans ih.1, by rw [b]; exact ih.2⟩
              | open_ => exact ⟨a.trans ih.1, by rw [b]; exact ih.2⟩
              | ok fs r =>
                obtain ⟨s1, p1, p2, p3, p4, p5, p6⟩ := ih
                exact ⟨s1, p1, p2, p3, a.trans p4, b.trans p5, by rw [List.length_drop] at p6; omega⟩
            · rw [if_pos hfc] at a b ⊢
              have := dead_run (l.drop (Ln.of l).size) (dead s) rfl
              exact ⟨by rw [a, this.1]; rfl, by rw [b, this.2]; rfl⟩
      · rw [if_pos hc]
        exact t1 hc
theorem first_fields {t : List UInt8} {h : Hd} (e : first t = .inr h) : h.fields = [] := by
  unfold first at e
  split at e
  · split at e
    · cases e
    · split at e
      · cases e
      · split at e
        · injection e with e; subst e; rfl
        · split at e
          · injection e with e; subst e; rfl
          · cases e
  · cases e
/-- does it end with a code? -/
def failed (l : List Ev) : Bool := match l.getLast? with
  | some (.fail _) => true
  | _ => false
theorem failed_fin (x q : List Ev) : failed (x ++ .fin :: q) = failed q := by
  unfold failed
  rw [List.getLast?_append]
  cases q with
  | nil => rfl
  | cons e t =>
    rw [List.getLast?_cons_cons]
    cases h : (e :: t).getLast? with
    | none => simp at h
    | some y => rfl
theorem failed_fail (x : List Ev) (c : Nat) : failed (x ++ [.fail c]) = true := by
  unfold failed; rw [List.getLast?_append]; rfl
theorem failed_head (h : Hd) (l : List UInt8) : failed (.head h :: some_ l) = false := by
  unfold some_
  split <;> rfl
/-- what is told, joined, and how it stands -/
structure Tells (s : St) (l : List UInt8) (r : List Ev × Bool) : Prop where
  ev : join (outs s l) = r.1
  busy : busy (fold s l) = r.2
  dead : decide ((fold s l).ph = 4) = failed r.1
theorem Tells.fail {s : St} {l : List UInt8} {c : Nat} (h : outs s l = [.fail c] ∧ (fold s l).ph = 4) : Tells s l ([.fail c], false) :=
  ⟨by rw [h.1]; rfl, by unfold Rq.busy; rw [if_pos h.2], by rw [h.2]; rfl⟩
theorem begun_fold (l : List UInt8) (ho : (Ln.of l).size = 0) : Ln.begun (Ln.fold Ln.start l) = decide (l ≠ []) := by
  have := Ln.fold_came l l.length (Nat.le_refl _) (Or.inl ho)
  rw [List.take_length] at this
  rw [Ln.begun_came, this.2.2]
  cases l <;> simp
theorem go_run : ∀ (f : Nat) (l : List UInt8) (s : St), l.length < f → s.ph = 0 → s.ln = Ln.start → Tells s l (go f l)
  | 0, l, s, hf, _, _ => by omega
  | f + 1, l, s, hf, h0, hln => by
    have h : AtLine s := ⟨Or.inl h0, hln⟩
    rw [go]
    by_cases ho : (Ln.of l).size = 0
    · obtain ⟨e1, e2⟩ := Ck.open_of ho
      rw [if_neg (fun e => e e1), if_pos e2]
      obtain ⟨a, b⟩ := line_open h l ho
      refine ⟨by rw [a]; rfl, ?_, by rw [b]; show decide (s.ph = 4) = false; rw [h0]; rfl⟩
      rw [b]
      unfold Rq.busy
      rw [if_neg (by show ¬ s.ph = 4; omega), if_pos h0]
      exact begun_fold l ho
    · have hp : 0 < (Ln.of l).size := by omega
      have hle := Ln.of_le l
      obtain ⟨t1, t2⟩ := line_told h l hp
      by_cases hc : (Ln.of l).code = 0
      · rw [if_neg (fun e => e hc), if_neg (by rw [Ck.kind_of hp hc]; simp)]
        obtain ⟨a, b⟩ := t2 hc
        have hdl : (l.drop (Ln.of l).size).length = l.length - (Ln.of l).size := List.length_drop
        by_cases ht : (Ln.of l).text = []
        · rw [if_pos ht]
          have hL : line s (Ln.of l).text = (s, []) := by unfold line; rw [if_pos h0, if_pos ht]
          rw [hL] at a b
          have ih := go_run f (l.drop (Ln.of l).size) s (by omega) h0 hln
          exact ⟨by rw [a]; exact ih.ev, by rw [b]; exact ih.busy, by rw [b]; exact ih.dead⟩
        · rw [if_neg ht]
          have hL : line s (Ln.of l).text = match first (Ln.of l).text with | .inl c => (dead s, [.fail c]) | .inr h => ({ s with ph := 1, hd := h }, []) := by
            unfold line; rw [if_pos h0, if_neg ht]
            cases first (Ln.of l).text <;> rfl
          rw [hL] at a b
          have hff : ∀ h, first (Ln.of l).text = .inr h → h.fields = [] := fun h e => first_fields e
          generalize first (Ln.of l).text = F at a b hff ⊢
          generalize l.drop (Ln.of l).size = d at a b hdl ⊢
          cases F with
          | inl c =>
            have := dead_run d (Rq.dead s) rfl
            exact Tells.fail ⟨by rw [a]; show [Ev.fail c] ++ outs (Rq.dead s) d = _; rw [this.1]; rfl, by rw [b]; show (fold (Rq.dead s) d).ph = 4; rw [this.2]; rfl⟩
          | inr hd =>
            simp only [List.nil_append] at a b ⊢
            have hfr := fields_run (f + 1) d { s with ph := 1, hd := hd } (by omega) ⟨Or.inr rfl, hln⟩ rfl
            simp only [hff hd rfl] at hfr
            generalize flds (f + 1) d [] = F2 at hfr ⊢
            cases F2 with
            | fail c => exact Tells.fail ⟨a.trans hfr.1, by rw [b]; exact hfr.2⟩
            | open_ =>
              refine ⟨by rw [a, hfr.1]; rfl, ?_, ?_⟩
              · rw [b]; unfold Rq.busy; rw [hfr.2]; rfl
              · rw [b, hfr.2]; rfl
            | ok fs r =>
              obtain ⟨s1, p1, p2, p3, p4, p5, p6⟩ := hfr
              have hL2 : line s1 [] = match len s1.hd with
                  | .inl c => (Rq.dead s1, [.fail c])
                  | .inr k => if k = 0 then ({ s1 with ph := 0 }, [.head { s1.hd with length := k }, .fin]) else if 0 < k then ({ s1 with ph := 2, left := k.toNat }, [.head { s1.hd with length := k }]) else ({ s1 with ph := 3, ck := Ck.start }, [.head { s1.hd with length := k }]) := by
                unfold line; rw [if_neg (by omega), if_pos rfl]
                cases len s1.hd <;> rfl
              have a2 := a.trans p4
              have b2 := b.trans p5
              simp only at p3
              have hh : ∀ k, ({ s1.hd with length := k } : Hd) = { hd with fields := fs, length := k } := fun k => by rw [p3]
              have hlen : len s1.hd = len { hd with fields := fs } := by rw [p3]
              rw [hlen] at hL2
              rw [hL2] at a2 b2
              simp only
              generalize len { hd with fields := fs } = K at a2 b2 ⊢
              cases K with
              | inl c =>
                have := dead_run r (Rq.dead s1) rfl
                exact Tells.fail ⟨by rw [a2]; show [Ev.fail c] ++ outs (Rq.dead s1) r = _; rw [this.1]; rfl, by rw [b2]; show (fold (Rq.dead s1) r).ph = 4; rw [this.2]; rfl⟩
              | inr k =>
                simp only [hh] at a2 b2 ⊢
                by_cases hk : 0 ≤ k
                · rw [if_pos hk]
                  by_cases hk0 : k = 0
                  · subst hk0
                    rw [if_pos rfl] at a2 b2
                    rw [if_pos (show Int.toNat 0 ≤ r.length from Nat.zero_le _)]
                    have ih := go_run f r { s1 with ph := 0 } (by omega) rfl p2
                    refine ⟨?_, by rw [b2]; exact ih.busy, ?_⟩
                    · rw [a2]
                      show join (.head _ :: .fin :: outs { s1 with ph := 0 } r) = _
                      rw [join_head, join_fin, ih.ev]; rfl
                    · rw [b2]
                      refine ih.dead.trans ?_
                      exact (failed_fin [_] _).symm
                  · rw [if_neg hk0, if_pos (by omega)] at a2 b2
                    obtain ⟨j, hj⟩ : ∃ j, k.toNat = j + 1 := ⟨k.toNat - 1, by omega⟩
                    obtain ⟨z1, z2⟩ := sized j r { s1 with ph := 2, left := k.toNat } rfl hj
                    by_cases hle2 : k.toNat ≤ r.length
                    · rw [if_pos hle2]
                      obtain ⟨y1, y2⟩ := z2 (by omega)
                      have ih := go_run f (r.drop (j + 1)) { s1 with ph := 0, left := 0 } (by rw [List.length_drop]; omega) rfl p2
                      rw [hj]
                      refine ⟨?_, by rw [b2, y2]; exact ih.busy, ?_⟩
                      · rw [a2, y1]
                        show join (.head _ :: (ones (r.take (j + 1)) ++ .fin :: outs { s1 with ph := 0, left := 0 } (r.drop (j + 1)))) = _
                        rw [join_head, join_ones _ _ (apart_fin _), join_fin, ih.ev]; rfl
                      · rw [b2, y2]
                        refine ih.dead.trans ?_
                        exact (failed_fin (.head _ :: some_ (r.take (j + 1))) _).symm
                    · rw [if_neg hle2]
                      obtain ⟨y1, y2⟩ := z1 (by omega)
                      refine ⟨?_, ?_, ?_⟩
                      · rw [a2, y1]
                        show join (.head _ :: ones r) = _
                        have := join_ones r [] apart_nil
                        rw [List.append_nil, show join [] = [] from rfl, List.append_nil] at this
                        rw [join_head, this]
                      · rw [b2]; unfold Rq.busy; rw [y2]; rfl
                      · rw [b2, y2]; exact (failed_head _ _).symm
                · rw [if_neg hk]
                  rw [if_neg (by omega), if_neg (by omega)] at a2 b2
                  have hs := Ck.of_run r
                  obtain ⟨z1, z2, z3⟩ := chunked r { s1 with ph := 3, ck := Ck.start } rfl rfl (by show (0 : Nat) ≠ 4; omega)
                  simp only at z1 z2 z3
                  rw [← hs.code, ← hs.body] at z1
                  rw [← hs.code, ← hs.over, ← hs.body] at z2 z3
                  by_cases hcc : (Ck.of r).code = 0
                  · rw [if_neg (fun e => e hcc)]
                    cases hov : (Ck.of r).over
                    · rw [if_pos rfl]
                      obtain ⟨y1, y2⟩ := z3 hcc hov
                      refine ⟨?_, ?_, ?_⟩
                      · rw [a2, y1]
                        show join (.head _ :: ones (Ck.of r).body) = _
                        have := join_ones (Ck.of r).body [] apart_nil
                        rw [List.append_nil, show join [] = [] from rfl, List.append_nil] at this
                        rw [join_head, this]
                      · rw [b2]; unfold Rq.busy; rw [y2]; rfl
                      · rw [b2, y2]; exact (failed_head _ _).symm
                    · rw [if_neg (by simp)]
                      obtain ⟨s', y1, y2, y3, y4⟩ := z2 hcc hov
                      rw [← hs.used (Or.inr hov)] at y3 y4
                      have hu := Ck.of_used r (Or.inr hov)
                      have ih := go_run f (r.drop (Ck.of r).used) s' (by rw [List.length_drop]; omega) y1 (y2.trans p2)
                      refine ⟨?_, by rw [b2, y4]; exact ih.busy, ?_⟩
                      · rw [a2, y3]
                        show join (.head _ :: (ones (Ck.of r).body ++ .fin :: outs s' (r.drop (Ck.of r).used))) = _
                        rw [join_head, join_ones _ _ (apart_fin _), join_fin, ih.ev]; rfl
                      · rw [b2, y4]
                        refine ih.dead.trans ?_
                        exact (failed_fin (.head _ :: some_ (Ck.of r).body) _).symm
                  · rw [if_pos hcc]
                    obtain ⟨y1, y2⟩ := z1 hcc
                    refine ⟨?_, ?_, ?_⟩
                    · rw [a2, y1]
                      show join (.head _ :: (ones (Ck.of r).body ++ [.fail (Ck.of r).code])) = _
                      rw [join_head, join_ones _ _ (apart_fail _ _)]; rfl
                    · rw [b2]; unfold Rq.busy; rw [if_pos y2]
                    · rw [b2, y2]; exact (failed_fail (.head _ :: some_ (Ck.of r).body) _).symm
      · rw [if_pos hc]
        exact Tells.fail (t1 hc)
/-- a reader that is new tells what is told of all bytes -/
theorem of_run (l : List UInt8) : Tells start l (of l) := go_run (l.length + 1) l start (by omega) rfl rfl
end Go.Proofs.YtjhbiipbmlpgoaaDoor.Rq

/- Plain laws of requests of a stream: how bytes fall does not matter. -/
namespace Go.Proofs.YtjhbiipbmlpgoaaDoor.Rq

/-- no two bodies stand one behind the other -/
def Joined : List Ev → Prop
  | [] => True
  | .body _ :: r => Apart r ∧ Joined r
  | _ :: r => Joined r
theorem joined_join : ∀ l : List Ev, Joined (join l)
  | [] => trivial
  | .head h :: r => by rw [join]; exact joined_join r
  | .fin :: r => by rw [join]; exact joined_join r
  | .fail c :: r => by rw [join]; exact joined_join r
  | .body a :: r => by
    have ih := joined_join r
    rw [join]
    cases hj : join r with
    | nil => exact ⟨trivial, trivial⟩
    | cons e q =>
      rw [hj] at ih
      cases e with
      | body b => exact ih
      | head h => exact ⟨trivial, ih⟩
      | fin => exact ⟨trivial, ih⟩
      | fail c => exact ⟨trivial, ih⟩
theorem join_of_joined : ∀ l : List Ev, Joined l → join l = l
  | [], _ => rfl
  | .head h :: r, k => by rw [join, join_of_joined r k]
  | .fin :: r, k => by rw [join, join_of_joined r k]
  | .fail c :: r, k => by rw [join, join_of_joined r k]
  | .body a :: r, k => by
    have e := join_of_joined r k.2
    rw [join_body (by rw [e]; exact k.1), e]
theorem join_join (l : List Ev) : join (join l) = join l := join_of_joined _ (joined_join l)
/-- what follows may be joined ahead -/
theorem join_right : ∀ (a b : List Ev), join (a ++ join b) = join (a ++ b)
  | [], b => join_join b
  | .head h :: r, b => by rw [List.cons_append, List.cons_append, join, join, join_right r b]
  | .fin :: r, b => by rw [List.cons_append, List.cons_append, join, join, join_right r b]
  | .fail c :: r, b => by rw [List.cons_append, List.cons_append, join, join, join_right r b]
  | .body x :: r, b => by rw [List.cons_append, List.cons_append, join, join, join_right r b]
/-- a body ahead of what is joined -/
theorem join_cons (x : List UInt8) (l r : List Ev) (h : join l = join r) : join (.body x :: l) = join (.body x :: r) := by rw [join, join, h]
/-- what stands ahead may be joined, too -/
theorem join_left : ∀ (a b : List Ev), join (join a ++ b) = join (a ++ b)
  | [], b => rfl
  | .head h :: r, b => by rw [join, List.cons_append, List.cons_append, join, join, join_left r b]
  | .fin :: r, b => by rw [join, List.cons_append, List.cons_append, join, join, join_left r b]
  | .fail c :: r, b => by rw [join, List.cons_append, List.cons_append, join, join, join_left r b]
  | .body x :: r, b => by
    have ih := join_left r b
    have e1 : join (.body x :: (join r ++ b)) = join (.body x :: (r ++ b)) := join_cons x _ _ ih
    rw [List.cons_append, ← e1]
    have e2 : join (.body x :: r) = match join r with | .body y :: q => .body (x ++ y) :: q | q => .body x :: q := by
      rw [join]
      cases join r with
      | nil => rfl
      | cons e q => cases e <;> rfl
    rw [e2]
    cases join r with
    | nil => rfl
    | cons e q => cases e with
      | body y =>
        show join (.body (x ++ y) :: (q ++ b)) = join (.body x :: .body y :: (q ++ b))
        rw [join_more]
      | head h => rfl
      | fin => rfl
      | fail c => rfl
/-- bytes in pieces: what each of them brings, joined, one behind the other -/
def fed : St → List (List UInt8) → List Ev
  | _, [] => []
  | s, p :: ps => join (outs s p) ++ fed (fold s p) ps
/-- HOW BYTES FALL DOES NOT MATTER -/
theorem join_fed : ∀ (ps : List (List UInt8)) (s : St), join (fed s ps) = join (outs s ps.flatten)
  | [], s => rfl
  | p :: ps, s => by
    show join (join (outs s p) ++ fed (fold s p) ps) = join (outs s (p ++ ps.flatten))
    rw [join_left, outs_append, ← join_right, join_fed ps (fold s p), join_right]
theorem fold_pieces : ∀ (ps : List (List UInt8)) (s : St), ps.foldl fold s = fold s ps.flatten
  | [], s => rfl
  | p :: ps, s => by
    show ps.foldl fold (fold s p) = fold s (p ++ ps.flatten)
    rw [fold_append, fold_pieces ps]
theorem fed_snoc : ∀ (ps : List (List UInt8)) (s : St) (p : List UInt8), fed s (ps ++ [p]) = fed s ps ++ join (outs (fold s ps.flatten) p)
  | [], s, p => by simp [fed, fold]
  | q :: ps, s, p => by
    show join (outs s q) ++ fed (fold s q) (ps ++ [p]) = (join (outs s q) ++ fed (fold s q) ps) ++ join (outs (fold s (q ++ ps.flatten)) p)
    rw [fed_snoc ps, fold_append, List.append_assoc]
end Go.Proofs.YtjhbiipbmlpgoaaDoor.Rq

/- Plain laws of requests of a stream: a request's text, and there and back. -/
namespace Go.Proofs.YtjhbiipbmlpgoaaDoor.Rq

/-- fields, a line each: a code, or their text -/
def lines : List Fl → Nat ⊕ List UInt8
  | [] => .inr []
  | f :: r => if (Fd.text f.1 f.2).2 ≠ 0 then .inl (Fd.text f.1 f.2).2 else match lines r with
    | .inl c => .inl c
    | .inr s => .inr ((Fd.text f.1 f.2).1 ++ 13 :: 10 :: s)
def nCL : List UInt8 := [67, 111, 110, 116, 101, 110, 116, 45, 76, 101, 110, 103, 116, 104]
def v11 : List UInt8 := [72, 84, 84, 80, 47, 49, 46, 49]
/-- a request's text, and a code -/
def text (h : Hd) (body : List UInt8) : List UInt8 × Nat :=
  if Ch.isToken h.method = false then ([], 6)
  else if h.target.head? ≠ some 47 ∨ 32 ∈ h.target ∨ 9 ∈ h.target ∨ Ch.isVisible h.target = false then ([], 5)
  else if 200 < h.method.length + h.target.length + 10 ∨ 4000 < body.length then ([], 4)
  else if 16 ≤ h.fields.length then ([], 8)
  else if vals h.fields nSize ≠ [] ∨ vals h.fields nCode ≠ [] then ([], 12)
  else if (vals h.fields nHost).length ≠ 1 then ([], 13)
  else match lines h.fields with
    | .inl c => ([], c)
    | .inr s => (h.method ++ 32 :: (h.target ++ 32 :: (v11 ++ 13 :: 10 :: (s ++ (nCL ++ [58, 32] ++ Ch.decF 8 body.length ++ 13 :: 10 :: 13 :: 10 :: body)))), 0)
/-- the head as it is read -/
def back (h : Hd) (body : List UInt8) : Hd := { h with minor := 1, fields := h.fields ++ [(nCL, Ch.decF 8 body.length)], length := (body.length : Int) }

theorem cut_end : ∀ (m w : List UInt8), (∀ b ∈ m, b ≠ 32) → cut w m = [w ++ m]
  | [], w, _ => by simp [cut]
  | c :: t, w, h => by
    rw [cut, if_neg (h c (List.mem_cons_self ..)), cut_end t (w ++ [c]) (fun b hb => h b (List.mem_cons_of_mem _ hb))]
    simp
theorem cut_word : ∀ (m w t : List UInt8), (∀ b ∈ m, b ≠ 32) → cut w (m ++ 32 :: t) = (w ++ m) :: cut [] t
  | [], w, t, _ => by simp [cut]
  | c :: m, w, t, h => by
    rw [List.cons_append, cut, if_neg (h c (List.mem_cons_self ..)), cut_word m (w ++ [c]) t (fun b hb => h b (List.mem_cons_of_mem _ hb))]
    simp
theorem token_fine (b : UInt8) (h : Ch.token b.toNat = true) : Ch.visible b.toNat = true ∧ b ≠ 32 := by
  have hb := b.toNat_lt
  have := (show ∀ n : Fin 256, Ch.token ((n.val.toUInt8).toNat : Int) = true → Ch.visible ((n.val.toUInt8).toNat : Int) = true ∧ n.val.toUInt8 ≠ 32 by decide +kernel) ⟨b.toNat, hb⟩
  have e : b.toNat.toUInt8 = b := by simp
  simp only [e] at this
  exact this h
theorem isToken_all {m : List UInt8} (h : Ch.isToken m = true) : m ≠ [] ∧ ∀ b ∈ m, Ch.visible b.toNat = true ∧ b ≠ 32 := by
  unfold Ch.isToken at h
  rw [Bool.and_eq_true] at h
  refine ⟨fun e => by rw [e] at h; exact absurd h.1 (by simp), fun b hb => token_fine b (List.all_eq_true.1 h.2 b hb)⟩
theorem seen_all {m : List UInt8} (h : Ch.isVisible m = true) : ∀ b ∈ m, Ch.visible b.toNat = true := fun b hb => List.all_eq_true.1 h b hb
/-- a first line that is read -/
theorem first_is {m g : List UInt8} (hm : Ch.isToken m = true) (hg : g.head? = some 47) (h32 : 32 ∉ g) (h9 : 9 ∉ g) : first (m ++ 32 :: (g ++ 32 :: v11)) = .inr ⟨m, g, 1, [], 0⟩ := by
  unfold first
  rw [cut_word m [] _ (fun b hb => ((isToken_all hm).2 b hb).2), cut_word g [] _ (fun b hb e => h32 (e ▸ hb)), cut_end v11 [] (by decide)]
  simp only [List.nil_append]
  rw [if_neg (by rw [hm]; simp), if_neg (by rw [hg]; simp [h9]), if_pos (show v11 = [72, 84, 84, 80, 47, 49, 46, 49] from rfl)]
/-- fields that are read -/
theorem field_line {n v : List UInt8} (h : (Fd.text n v).2 = 0) (r : List UInt8) : Ln.of ((Fd.text n v).1 ++ 13 :: 10 :: r) = ⟨(Fd.text n v).1, (Fd.text n v).1.length + 2, true, 0⟩ ∧ (Fd.text n v).1 ≠ [] ∧ Fd.of (Fd.text n v).1 = ⟨n, v, 0⟩ := by
  obtain ⟨hG, hl⟩ := Fd.text_zero h
  have e := Fd.text_good hG hl
  rw [e]
  simp only
  have ho := Fd.of_text hG
  refine ⟨Ck.line_of _ r (fun b hb => ?_) (by simp; omega), by simp, ho⟩
  unfold Fd.text at h
  have hT : Ch.isToken n = true := by
    cases ht : Ch.isToken n
    · rw [if_pos ht] at h; cases h
    · rfl
  rw [if_neg (by rw [hT]; simp)] at h
  have hV : Ch.isVisible v = true := by
    split at h
    · cases h
    · split at h
      · cases h
      · rename_i hh
        cases hv : Ch.isVisible v
        · exact absurd (Or.inl hv) hh
        · rfl
  simp only [List.mem_append, List.mem_cons, List.not_mem_nil, or_false] at hb
  rcases hb with (hb | rfl | rfl) | hb
  · exact ((isToken_all hT).2 b hb).1
  · decide
  · decide
  · exact seen_all hV b hb
theorem flds_lines : ∀ (fs acc : List Fl) (f : Nat) (rest s : List UInt8), lines fs = .inr s → acc.length + fs.length ≤ 16 → flds (f + fs.length) (s ++ rest) acc = flds f rest (acc ++ fs)
  | [], acc, f, rest, s, h, _ => by
    injection h with h; subst h
    simp
  | x :: fs, acc, f, rest, s, h, hl => by
    rw [lines] at h
    by_cases hc : (Fd.text x.1 x.2).2 = 0
    · rw [if_neg (fun e => e hc)] at h
      cases hs : lines fs with
      | inl c => rw [hs] at h; cases h
      | inr s' =>
        rw [hs] at h
        injection h with h; subst h
        simp only [List.length_cons] at hl
        obtain ⟨h1, h2, h3⟩ := field_line hc (s' ++ rest)
        have e : (Fd.text x.1 x.2).1 ++ 13 :: 10 :: s' ++ rest = (Fd.text x.1 x.2).1 ++ 13 :: 10 :: (s' ++ rest) := by simp
        rw [e, List.length_cons, ← Nat.add_assoc, flds, h1]
        simp only
        rw [if_neg (by simp), if_neg (by simp), if_neg h2, if_neg (by omega), h3]
        simp only
        rw [if_neg (by simp)]
        have hd : List.drop ((Fd.text x.1 x.2).1.length + 2) ((Fd.text x.1 x.2).1 ++ 13 :: 10 :: (s' ++ rest)) = s' ++ rest := by
          rw [← List.drop_drop, List.drop_left]; rfl
        rw [hd, flds_lines fs (acc ++ [(x.1, x.2)]) f rest s' hs (by simp; omega)]
        simp
    · rw [if_pos hc] at h; cases h
theorem dec_fine : ∀ (f n : Nat), n < 10 ^ (f + 1) → ∀ b ∈ Ch.decF f n, Ch.visible b.toNat = true ∧ Ch.ws.contains b = false := by
  have key : ∀ j, j < 10 → ∀ b ∈ Ch.decF 0 j, Ch.visible b.toNat = true ∧ Ch.ws.contains b = false := fun j hj => (show ∀ j : Fin 10, ∀ b ∈ Ch.decF 0 j.val, Ch.visible b.toNat = true ∧ Ch.ws.contains b = false by decide +kernel) ⟨j, hj⟩
  intro f
  induction f with
  | zero => intro n h b hb; exact key n (by simpa using h) b hb
  | succ f ih =>
    intro n h b hb
    unfold Ch.decF at hb
    split at hb
    · rename_i hn; exact key n hn b hb
    · rw [List.mem_append] at hb
      rcases hb with hb | hb
      · exact ih (n / 10) (by rw [Nat.pow_succ] at h; omega) b hb
      · exact key (n % 10) (by omega) b hb
/-- a Content-Length's own line -/
theorem cl_text (n : Nat) (h : n ≤ 4000) : (Fd.text nCL (Ch.decF 8 n)).2 = 0 ∧ (Fd.text nCL (Ch.decF 8 n)).1 = nCL ++ [58, 32] ++ Ch.decF 8 n := by
  have hf := dec_fine 8 n (by omega)
  have hl := Ch.decF_length 8 n
  have hk : nCL.length = 14 := rfl
  unfold Fd.text
  rw [if_neg (by decide), if_neg (by rw [hk]; omega), if_neg]
  · exact ⟨rfl, rfl⟩
  · rintro (e | e)
    · have : Ch.isVisible (Ch.decF 8 n) = true := List.all_eq_true.2 fun b hb => (hf b hb).1
      rw [this] at e; cases e
    · exact e (Ck.trim_none fun b hb => (hf b hb).2)
theorem vals_append (a b : List Fl) (n : List UInt8) : vals (a ++ b) n = vals a n ++ vals b n := by simp [vals]
/-- there and back: a request that was written, ahead of whatever follows -/
theorem go_text (h : Hd) (a rest : List UInt8) (f : Nat) (hc : (text h a).2 = 0) (hf : (text h a).1.length + rest.length < f + 1) :
    go (f + 1) ((text h a).1 ++ rest) = (.head (back h a) :: some_ a ++ .fin :: (go f rest).1, (go f rest).2) := by
  unfold text at hc hf ⊢
  by_cases h1 : Ch.isToken h.method = false
  · rw [if_pos h1] at hc; cases hc
  rw [if_neg h1] at hc hf ⊢
  by_cases h2 : h.target.head? ≠ some 47 ∨ 32 ∈ h.target ∨ 9 ∈ h.target ∨ Ch.isVisible h.target = false
  · rw [if_pos h2] at hc; cases hc
  rw [if_neg h2] at hc hf ⊢
  by_cases h3 : 200 < h.method.length + h.target.length + 10 ∨ 4000 < a.length
  · rw [if_pos h3] at hc; cases hc
  rw [if_neg h3] at hc hf ⊢
  by_cases h4 : 16 ≤ h.fields.length
  · rw [if_pos h4] at hc; cases hc
  rw [if_neg h4] at hc hf ⊢
  by_cases h5 : vals h.fields nSize ≠ [] ∨ vals h.fields nCode ≠ []
  · rw [if_pos h5] at hc; cases hc
  rw [if_neg h5] at hc hf ⊢
  by_cases h6 : (vals h.fields nHost).length ≠ 1
  · rw [if_pos h6] at hc; cases hc
  rw [if_neg h6] at hc hf ⊢
  cases hs : lines h.fields with
  | inl c => 
    rw [hs] at hc
    exfalso
    have key : ∀ fs c, lines fs = .inl c → c ≠ 0 := by
      intro fs
      induction fs with
      | nil => intro c e; cases e
      | cons x r ih =>
        intro c e
        rw [lines] at e
        split at e
        · rename_i hx; injection e with e; subst e; exact hx
        · cases hr : lines r with
          | inl d => rw [hr] at e; injection e with e; subst e; exact ih d hr
          | inr d => rw [hr] at e; cases e
    exact key _ c hs hc
  | inr s =>
    rw [hs] at hf
    simp only at hf ⊢
    clear hc
    have hm : Ch.isToken h.method = true := by
      cases e : Ch.isToken h.method
      · exact absurd e h1
      · rfl
    have hg1 : h.target.head? = some 47 := by
      rcases Decidable.em (h.target.head? = some 47) with e | e
      · exact e
      · exact absurd (Or.inl e) h2
    have hg2 : 32 ∉ h.target := fun e => h2 (Or.inr (Or.inl e))
    have hg3 : 9 ∉ h.target := fun e => h2 (Or.inr (Or.inr (Or.inl e)))
    have hg4 : Ch.isVisible h.target = true := by
      cases e : Ch.isVisible h.target
      · exact absurd (Or.inr (Or.inr (Or.inr e))) h2
      · rfl
    have ha : a.length ≤ 4000 := by omega
    obtain ⟨c1, c2⟩ := cl_text a.length ha
    -- the first line
    have e0 : h.method ++ 32 :: (h.target ++ 32 :: (v11 ++ 13 :: 10 :: (s ++ (nCL ++ [58, 32] ++ Ch.decF 8 a.length ++ 13 :: 10 :: 13 :: 10 :: a)))) ++ rest = (h.method ++ 32 :: (h.target ++ 32 :: v11)) ++ 13 :: 10 :: (s ++ ((nCL ++ [58, 32] ++ Ch.decF 8 a.length) ++ 13 :: 10 :: (13 :: 10 :: (a ++ rest)))) := by simp
    have hlen : (h.method ++ 32 :: (h.target ++ 32 :: v11)).length = h.method.length + h.target.length + 10 := by
      simp [v11]; omega
    have hl0 := Ck.line_of (h.method ++ 32 :: (h.target ++ 32 :: v11)) (s ++ ((nCL ++ [58, 32] ++ Ch.decF 8 a.length) ++ 13 :: 10 :: (13 :: 10 :: (a ++ rest)))) (fun b hb => by
      rw [List.mem_append, List.mem_cons, List.mem_append, List.mem_cons] at hb
      rcases hb with hb | rfl | hb | rfl | hb
      · exact ((isToken_all hm).2 b hb).1
      · decide
      · exact seen_all hg4 b hb
      · decide
      · exact (show ∀ b ∈ v11, Ch.visible b.toNat = true by decide) b hb) (by omega)
    have hne : h.method ++ 32 :: (h.target ++ 32 :: v11) ≠ [] := by simp
    have hdrop : List.drop ((h.method ++ 32 :: (h.target ++ 32 :: v11)).length + 2) ((h.method ++ 32 :: (h.target ++ 32 :: v11)) ++ 13 :: 10 :: (s ++ ((nCL ++ [58, 32] ++ Ch.decF 8 a.length) ++ 13 :: 10 :: (13 :: 10 :: (a ++ rest))))) = s ++ ((nCL ++ [58, 32] ++ Ch.decF 8 a.length) ++ 13 :: 10 :: (13 :: 10 :: (a ++ rest))) := by
      rw [← List.drop_drop, List.drop_left]; rfl
    have htot : h.fields.length + 2 ≤ f := by
      have hk : h.fields.length ≤ 15 := by omega
      have : (nCL ++ [58, 32] ++ Ch.decF 8 a.length ++ 13 :: 10 :: 13 :: 10 :: a).length ≥ 20 := by simp [nCL]; omega
      simp only [List.length_append, List.length_cons] at hf this
      omega
    have hfl : flds (f + 1) (s ++ ((nCL ++ [58, 32] ++ Ch.decF 8 a.length) ++ 13 :: 10 :: (13 :: 10 :: (a ++ rest)))) [] = .ok (h.fields ++ [(nCL, Ch.decF 8 a.length)]) (a ++ rest) := by
      obtain ⟨k, hk⟩ : ∃ k, f + 1 = (k + 2) + h.fields.length := ⟨f - 1 - h.fields.length, by omega⟩
      rw [hk, flds_lines h.fields [] (k + 2) _ s hs (by simp; omega), ← c2]
      obtain ⟨g1, g2, g3⟩ := field_line c1 (13 :: 10 :: (a ++ rest))
      rw [flds, g1]
      simp only
      rw [if_neg (by simp), if_neg (by simp), if_neg g2, if_neg (by simp; omega), g3]
      simp only
      rw [if_neg (by simp)]
      have hd2 : List.drop ((Fd.text nCL (Ch.decF 8 a.length)).1.length + 2) ((Fd.text nCL (Ch.decF 8 a.length)).1 ++ 13 :: 10 :: (13 :: 10 :: (a ++ rest))) = 13 :: 10 :: (a ++ rest) := by
        rw [← List.drop_drop, List.drop_left]; rfl
      have hl2 : Ln.of (13 :: 10 :: (a ++ rest)) = ⟨[], 2, true, 0⟩ := Ck.line_of [] (a ++ rest) (by simp) (by simp)
      rw [hd2, flds, hl2]
      simp
    have hv5 : vals h.fields nSize = [] ∧ vals h.fields nCode = [] := by
      constructor
      · rcases Decidable.em (vals h.fields nSize = []) with e | e
        · exact e
        · exact absurd (Or.inl e) h5
      · rcases Decidable.em (vals h.fields nCode = []) with e | e
        · exact e
        · exact absurd (Or.inr e) h5
    have w1 : vals [(nCL, Ch.decF 8 a.length)] nHost = [] := by
      have k : (Ch.lower nCL == nHost) = false := by decide
      simp only [vals, List.filter, k, List.map]
    have w2 : vals [(nCL, Ch.decF 8 a.length)] nCode = [] := by
      have k : (Ch.lower nCL == nCode) = false := by decide
      simp only [vals, List.filter, k, List.map]
    have w3 : vals [(nCL, Ch.decF 8 a.length)] nSize = [Ch.decF 8 a.length] := by
      have k : (Ch.lower nCL == nSize) = true := by decide
      simp only [vals, List.filter, k, List.map]
    have hln : len ⟨h.method, h.target, 1, h.fields ++ [(nCL, Ch.decF 8 a.length)], 0⟩ = .inr (a.length : Int) := by
      unfold len
      simp only [vals_append, w1, w2, w3, hv5.1, hv5.2, List.append_nil, List.nil_append]
      have h6' : (vals h.fields nHost).length = 1 := by omega
      rw [if_neg (by rw [h6']; simp), if_neg (by simp)]
      simp only [List.headD_cons]
      rw [sizes, Ch.number_dec a.length (by omega), if_neg (by simp), if_neg (by simp), sizes]
      simp only
      rw [if_neg (by omega)]
    rw [e0, go, hl0]
    simp only
    rw [if_neg (by simp), if_neg (by simp), if_neg hne, first_is hm hg1 hg2 hg3, hdrop]
    simp only
    rw [hfl]
    simp only
    rw [hln]
    simp only
    rw [if_pos (by omega), if_pos (by simp), Int.toNat_natCast, List.drop_left, List.take_left]
    rfl
end Go.Proofs.YtjhbiipbmlpgoaaDoor.Rq

/- Plain: a reply's lines, as they are read. -/
namespace Go.Proofs.YtjhbiipbmlpgoaaDoor.Rp

theorem dig_seen (b : UInt8) (h : Ch.dig 10 b = true) : Ch.visible b.toNat = true := by
  have hb := b.toNat_lt
  have := (show ∀ n : Fin 256, Ch.dig 10 n.val.toUInt8 = true → Ch.visible ((n.val.toUInt8).toNat : Int) = true by decide +kernel) ⟨b.toNat, hb⟩
  have e : b.toNat.toUInt8 = b := by simp
  simp only [e] at this
  exact this h
theorem dec_seen {n : Nat} (h : n < 1000000000) : ∀ b ∈ Ch.decF 8 n, Ch.visible b.toNat = true := fun b hb => dig_seen b (List.all_eq_true.1 (Ch.decF_num 8 n h).1 b hb)
theorem word_seen (n : Int) : ∀ b ∈ word n, Ch.visible b.toNat = true := by
  by_cases hn : ∀ p ∈ tab, p.1 ≠ n
  · rw [word, look_no tab n hn]; intro b hb; cases hb
  · have : ∃ p, p ∈ tab ∧ p.1 = n := by
      apply Classical.byContradiction
      intro hc
      exact hn (fun p hp e => hc ⟨p, hp, e⟩)
    obtain ⟨p, hp, rfl⟩ := this
    have hall : ∀ q ∈ tab, ∀ b ∈ look tab q.1, Ch.visible (b.toNat : Int) = true := by decide +kernel
    exact hall p hp
/-- the first line, without its end -/
def line1 (st : Int) : List UInt8 := h11 ++ Ch.decF 8 st.toNat ++ [32] ++ word st
theorem first_eq (st : Int) : first st = line1 st ++ [13, 10] := rfl
theorem line1_read {st : Int} (h : word st ≠ []) (r : List UInt8) : Ln.of (line1 st ++ 13 :: 10 :: r) = ⟨line1 st, (line1 st).length + 2, true, 0⟩ := by
  have hs := word_has h
  have hw := word_len st
  have hd := Ch.decF_length 8 st.toNat
  refine Ck.line_of _ r (fun b hb => ?_) ?_
  · unfold line1 at hb
    rcases List.mem_append.1 hb with hb | hb
    · rcases List.mem_append.1 hb with hb | hb
      · rcases List.mem_append.1 hb with hb | hb
        · exact (show ∀ b ∈ h11, Ch.visible (b.toNat : Int) = true by decide +kernel) b hb
        · exact dec_seen (by omega) b hb
      · exact (show ∀ b ∈ ([32] : List UInt8), Ch.visible (b.toNat : Int) = true by decide +kernel) b hb
    · exact word_seen st b hb
  · unfold line1 h11
    simp only [List.length_append, List.length_cons, List.length_nil]; omega
/-- how long the body is -/
def nCL : List UInt8 := [67, 111, 110, 116, 101, 110, 116, 45, 76, 101, 110, 103, 116, 104]
theorem cl_eq : cl = nCL ++ [58, 32] := rfl
theorem cl_text {n : Nat} (h : n < 1000000000) : (Fd.text nCL (Ch.decF 8 n)).2 = 0 ∧ (Fd.text nCL (Ch.decF 8 n)).1 = cl ++ Ch.decF 8 n := by
  have hf := Rq.dec_fine 8 n h
  have hl := Ch.decF_length 8 n
  have hk : nCL.length = 14 := rfl
  unfold Fd.text
  rw [if_neg (by decide), if_neg (by rw [hk]; omega), if_neg]
  · exact ⟨rfl, rfl⟩
  · rintro (e | e)
    · have : Ch.isVisible (Ch.decF 8 n) = true := List.all_eq_true.2 fun b hb => (hf b hb).1
      rw [this] at e; cases e
    · exact e (Ck.trim_none fun b hb => (hf b hb).2)
theorem cl_read {n : Nat} (h : n < 1000000000) (r : List UInt8) : Ln.of (cl ++ Ch.decF 8 n ++ 13 :: 10 :: r) = ⟨cl ++ Ch.decF 8 n, (cl ++ Ch.decF 8 n).length + 2, true, 0⟩ ∧ cl ++ Ch.decF 8 n ≠ [] ∧ Fd.of (cl ++ Ch.decF 8 n) = ⟨nCL, Ch.decF 8 n, 0⟩ := by
  obtain ⟨h1, h2⟩ := cl_text h
  have := Rq.field_line h1 r
  rw [h2] at this
  exact this
/-- a field's line is read as that field -/
theorem line_read {p : ByteArray × ByteArray} (h : (Fd.text p.1.data.toList p.2.data.toList).2 = 0) (r : List UInt8) : Ln.of (lineT p ++ r) = ⟨(Fd.text p.1.data.toList p.2.data.toList).1, (lineT p).length, true, 0⟩ ∧ (Fd.text p.1.data.toList p.2.data.toList).1 ≠ [] ∧ Fd.of (Fd.text p.1.data.toList p.2.data.toList).1 = ⟨p.1.data.toList, p.2.data.toList, 0⟩ := by
  have := Rq.field_line h r
  unfold lineT
  rw [List.append_assoc, List.length_append]
  exact this
/-- what stands behind the first line and i fields -/
def tail_ (l : List (ByteArray × ByteArray)) (body : List UInt8) (i : Nat) : List UInt8 := (l.drop i).flatMap lineT ++ (cl ++ Ch.decF 8 body.length ++ 13 :: 10 :: 13 :: 10 :: body)
def at_ (st : Int) (l : List (ByteArray × ByteArray)) (i : Nat) : Nat := (first st).length + ((l.take i).flatMap lineT).length
theorem text_ok {st : Int} {l : List (ByteArray × ByteArray)} {nv : Nat} {body : List UInt8} (h : (text st l nv body).2 = 0) : (text st l nv body).1 = first st ++ tail_ l body 0 ∧ word st ≠ [] ∧ l.length < 16 ∧ nv = 0 ∧ code l = 0 := by
  unfold text at h ⊢
  by_cases h1 : word st = []
  · rw [if_pos h1] at h; cases h
  rw [if_neg h1] at h ⊢
  by_cases h2 : 16 ≤ l.length
  · rw [if_pos h2] at h; cases h
  rw [if_neg h2] at h ⊢
  by_cases h3 : nv ≠ 0
  · rw [if_pos h3] at h; cases h
  rw [if_neg h3] at h ⊢
  by_cases h4 : code l ≠ 0
  · rw [if_pos h4] at h; exact absurd h h4
  rw [if_neg h4]
  refine ⟨?_, h1, by omega, by omega, by omega⟩
  unfold tail_
  simp [List.append_assoc]
theorem drop_at (st : Int) (l : List (ByteArray × ByteArray)) (body : List UInt8) (i : Nat) : (first st ++ tail_ l body 0).drop (at_ st l i) = tail_ l body i := by
  have e : first st ++ tail_ l body 0 = (first st ++ (l.take i).flatMap lineT) ++ tail_ l body i := by
    unfold tail_
    conv => lhs; rw [List.drop_zero, ← List.take_append_drop i l, List.flatMap_append]
    simp [List.append_assoc]
  have h : at_ st l i = (first st ++ (l.take i).flatMap lineT).length := by unfold at_; rw [List.length_append]
  rw [e, h, List.drop_left]
theorem tail_at (l : List (ByteArray × ByteArray)) (body : List UInt8) (i : Nat) (hi : i < l.length) : tail_ l body i = lineT l[i] ++ tail_ l body (i + 1) := by
  unfold tail_
  rw [List.drop_eq_getElem_cons hi, List.flatMap_cons, List.append_assoc]
theorem tail_end (l : List (ByteArray × ByteArray)) (body : List UInt8) : tail_ l body l.length = cl ++ Ch.decF 8 body.length ++ 13 :: 10 :: 13 :: 10 :: body := by
  unfold tail_
  rw [List.drop_length]; rfl
theorem at_succ (st : Int) (l : List (ByteArray × ByteArray)) (i : Nat) (hi : i < l.length) : at_ st l (i + 1) = at_ st l i + (lineT l[i]).length := by
  unfold at_
  rw [List.take_succ_eq_append_getElem hi, List.flatMap_append, List.length_append]
  simp; omega
theorem code_all {l : List (ByteArray × ByteArray)} (h : code l = 0) : ∀ p ∈ l, (Fd.text p.1.data.toList p.2.data.toList).2 = 0 := by
  induction l with
  | nil => intro p hp; cases hp
  | cons q t ih =>
    rw [code] at h
    split at h
    · rename_i hq; exact absurd h hq
    · rename_i hq
      intro p hp
      rcases List.mem_cons.1 hp with rfl | hp
      · simpa using hq
      · exact ih h p hp
theorem empty_read (r : List UInt8) : Ln.of (13 :: 10 :: r) = ⟨[], 2, true, 0⟩ := Ck.line_of [] r (fun b hb => by cases hb) (by simp)
end Go.Proofs.YtjhbiipbmlpgoaaDoor.Rp

/- Plain: what stands behind each line of a reply, its length one more field. -/
namespace Go.Proofs.YtjhbiipbmlpgoaaDoor.Rp

/-- what stands at a line's place: the whole; behind the first line and k fields -/
def rest (st : Int) (ls : List (ByteArray × ByteArray)) (body : List UInt8) : Nat → List UInt8
  | 0 => first st ++ (ls.flatMap lineT ++ 13 :: 10 :: body)
  | k + 1 => (ls.drop k).flatMap lineT ++ 13 :: 10 :: body
def pos (st : Int) (ls : List (ByteArray × ByteArray)) : Nat → Nat
  | 0 => 0
  | k + 1 => (first st).length + ((ls.take k).flatMap lineT).length
theorem rest_drop (st : Int) (ls : List (ByteArray × ByteArray)) (body : List UInt8) : ∀ i, (rest st ls body 0).drop (pos st ls i) = rest st ls body i
  | 0 => by rw [pos, List.drop_zero]
  | k + 1 => by
    have e : rest st ls body 0 = (first st ++ (ls.take k).flatMap lineT) ++ rest st ls body (k + 1) := by
      rw [rest, rest]
      conv => lhs; rw [← List.take_append_drop k ls, List.flatMap_append]
      simp [List.append_assoc]
    have h : pos st ls (k + 1) = (first st ++ (ls.take k).flatMap lineT).length := by rw [pos, List.length_append]
    rw [e, h, List.drop_left]
theorem pos_len (st : Int) (ls : List (ByteArray × ByteArray)) (body : List UInt8) (i : Nat) : pos st ls i + (rest st ls body i).length = (rest st ls body 0).length := by
  cases i with
  | zero => rw [pos]; omega
  | succ k =>
    have e : rest st ls body 0 = (first st ++ (ls.take k).flatMap lineT) ++ rest st ls body (k + 1) := by
      rw [rest, rest]
      conv => lhs; rw [← List.take_append_drop k ls, List.flatMap_append]
      simp [List.append_assoc]
    rw [e, pos, List.length_append, List.length_append]
theorem rest_pos (st : Int) (ls : List (ByteArray × ByteArray)) (body : List UInt8) (i : Nat) : 2 ≤ (rest st ls body i).length := by
  cases i with
  | zero => rw [rest]; simp; omega
  | succ k => rw [rest]; simp; omega
theorem rest_first {st : Int} (ls : List (ByteArray × ByteArray)) (body : List UInt8) (h : word st ≠ []) : Ln.of (rest st ls body 0) = ⟨line1 st, pos st ls 1, true, 0⟩ := by
  have := line1_read h (ls.flatMap lineT ++ 13 :: 10 :: body)
  rw [rest, first_eq, List.append_assoc]
  show Ln.of (line1 st ++ 13 :: 10 :: (ls.flatMap lineT ++ 13 :: 10 :: body)) = _
  rw [this, pos, first_eq, List.length_append]
  simp
theorem rest_line (st : Int) (ls : List (ByteArray × ByteArray)) (body : List UInt8) (k : Nat) (hk : k < ls.length) (h : (Fd.text ls[k].1.data.toList ls[k].2.data.toList).2 = 0) :
    Ln.of (rest st ls body (k + 1)) = ⟨(Fd.text ls[k].1.data.toList ls[k].2.data.toList).1, (lineT ls[k]).length, true, 0⟩ ∧ (Fd.text ls[k].1.data.toList ls[k].2.data.toList).1 ≠ [] ∧ Fd.of (Fd.text ls[k].1.data.toList ls[k].2.data.toList).1 = ⟨ls[k].1.data.toList, ls[k].2.data.toList, 0⟩ ∧ pos st ls (k + 2) = pos st ls (k + 1) + (lineT ls[k]).length := by
  obtain ⟨h1, h2, h3⟩ := line_read h ((ls.drop (k + 1)).flatMap lineT ++ 13 :: 10 :: body)
  refine ⟨?_, h2, h3, ?_⟩
  · rw [rest, List.drop_eq_getElem_cons hk, List.flatMap_cons, List.append_assoc]
    exact h1
  · rw [pos, pos, List.take_succ_eq_append_getElem hk, List.flatMap_append, List.length_append]
    simp; omega
theorem rest_end (st : Int) (ls : List (ByteArray × ByteArray)) (body : List UInt8) : Ln.of (rest st ls body (ls.length + 1)) = ⟨[], 2, true, 0⟩ ∧ (rest st ls body 0).drop (pos st ls (ls.length + 1) + 2) = body := by
  have e : rest st ls body (ls.length + 1) = 13 :: 10 :: body := by rw [rest, List.drop_length]; rfl
  refine ⟨by rw [e]; exact empty_read body, ?_⟩
  rw [← List.drop_drop, rest_drop, e]; rfl
end Go.Proofs.YtjhbiipbmlpgoaaDoor.Rp
