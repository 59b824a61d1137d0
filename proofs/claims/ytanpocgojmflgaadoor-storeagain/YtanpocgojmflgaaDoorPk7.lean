/- Small texts, one behind the other: PlainSA, PlainSB, PlainSC. -/
import Derived.Test.YtanpocgojmflgaaDoorPk2
import Derived.Test.YtanpocgojmflgaaDoorPk3
/- Plain: a store: uploads, and a log of what was done to them; no program in it. -/
namespace Go.Proofs.YtanpocgojmflgaaDoor.Sr

/-- a text of these bytes -/
def ofL (l : List UInt8) : ByteArray := ⟨l.toArray⟩
theorem ofL_data (m : ByteArray) : ofL m.data.toList = m := by cases m; simp [ofL]
theorem ofL_list (l : List UInt8) : (ofL l).data.toList = l := by simp [ofL]
theorem ofL_size (l : List UInt8) : (ofL l).size = l.length := by simp [ofL, ByteArray.size]
/-- a store: its uploads, its log, how many bytes of it are made sure of -/
structure Sh where
  h : Sp.St
  log : List UInt8
  sure : Nat
def new : Sh := ⟨Sp.new, [], 0⟩
/-- an upload is made -/
def made (s : Sp.St) (size : Int) (m : ByteArray) : Sp.St × Nat := ((Sp.create s size m).1, (Sp.create s size m).2.2)
/-- how many bytes an upload has; 0 where there is none -/
def lenOf (s : Sp.St) (id : Int) : Nat := match Sp.place s.l id with
  | none => 0
  | some i => match s.l[i]? with
    | none => 0
    | some u => u.bytes.length
theorem lenOf_none {s : Sp.St} {id : Int} (h : Sp.place s.l id = none) : lenOf s id = 0 := by unfold lenOf; rw [h]
theorem lenOf_some {s : Sp.St} {id : Int} {i : Nat} (h : Sp.place s.l id = some i) : lenOf s id = (s.l[i]'(Sp.place_lt h)).bytes.length := by
  unfold lenOf; rw [h]; simp only [List.getElem?_eq_getElem (Sp.place_lt h)]
/-- what an entry says is done -/
def played (s : Sp.St) (e : Jn.E) : Sp.St × Nat :=
  if e.kind = 1 then made s e.n (ofL e.text) else if e.kind = 2 then Sp.append s e.id (lenOf s e.id) e.text else if e.kind = 3 then Sp.declare s e.id e.n else if e.kind = 4 then Sp.drop s e.id else if e.kind = 5 then Sp.begins s e.id else Sp.ends s e.id
def playAll (s : Sp.St) (l : List Jn.E) : Sp.St := l.foldl (fun h e => (played h e).1) s
/-- something was done to the uploads, or not; its entry is written, or not -/
def write (s : Sh) (r : Sp.St × Nat) (e : Jn.E) : Sh × Nat :=
  if r.2 ≠ 0 then (s, r.2) else if Jn.fits e = false then (s, 1) else if 100000 < s.log.length + (Jn.enc e).length then (s, 16) else (⟨r.1, s.log ++ Jn.enc e, s.sure⟩, 0)
def create (s : Sh) (size : Int) (m : ByteArray) : Sh × Nat := write s (made s.h size m) ⟨1, s.h.last + 1, size, m.data.toList⟩
/-- the number that Create answers -/
def numb (s : Sh) (c : Nat) : Int := if c = 0 then s.h.last + 1 else 0
def append (s : Sh) (id off : Int) (b : List UInt8) : Sh × Nat := write s (Sp.append s.h id off b) ⟨2, id, 0, b⟩
def declare (s : Sh) (id size : Int) : Sh × Nat := write s (Sp.declare s.h id size) ⟨3, id, size, []⟩
def drop (s : Sh) (id : Int) : Sh × Nat := write s (Sp.drop s.h id) ⟨4, id, 0, []⟩
def begins (s : Sh) (id : Int) : Sh × Nat := write s (Sp.begins s.h id) ⟨5, id, 0, []⟩
def ends (s : Sh) (id : Int) : Sh × Nat := write s (Sp.ends s.h id) ⟨6, id, 0, []⟩
def sync (s : Sh) : Sh := ⟨s.h, s.log, s.log.length⟩
def stays (keep : Int) (d : Nat) : Nat := min (max keep 0).toNat d
/-- how many bytes of the log a crash leaves -/
def left (s : Sh) (keep : Int) : Nat := s.sure + stays keep (s.log.length - s.sure)
def crash (s : Sh) (keep : Int) : Sh := ⟨playAll Sp.new (Jn.dec (s.log.take (left s keep))).1, s.log.take (Jn.dec (s.log.take (left s keep))).2, (Jn.dec (s.log.take (left s keep))).2⟩
/-- what holds of a store, whatever was asked of it -/
structure Ok (s : Sh) : Prop where
  h : Sp.Ok s.h
  last : s.h.last ≤ s.log.length
  sure : s.sure ≤ s.log.length
  few : s.log.length ≤ 100000
theorem Ok.new : Ok new := ⟨Sp.Ok.new, by simp [Sr.new, Sp.new], by simp [Sr.new], by simp [Sr.new]⟩
theorem Ok.last_ {s : Sh} (h : Ok s) : s.h.last ≤ 100000 := by have := h.last; have := h.few; omega
theorem left_le {s : Sh} (h : s.sure ≤ s.log.length) (keep : Int) : left s keep ≤ s.log.length := by unfold left stays; omega
theorem made_ok {s : Sp.St} (h : Sp.Ok s) (size : Int) (m : ByteArray) : Sp.Ok (made s size m).1 := h.create size m
theorem made_last (s : Sp.St) (size : Int) (m : ByteArray) : (made s size m).1.last ≤ s.last + 1 := Sp.last_le_create s size m
theorem played_ok {s : Sp.St} (h : Sp.Ok s) (e : Jn.E) : Sp.Ok (played s e).1 := by
  unfold played
  split
  · exact made_ok h _ _
  · split
    · exact h.append ..
    · split
      · exact h.declare ..
      · split
        · exact h.drop ..
        · split
          · exact h.begins ..
          · exact h.ends ..
theorem played_last (s : Sp.St) (e : Jn.E) : (played s e).1.last ≤ s.last + 1 := by
  unfold played
  split
  · exact made_last s _ _
  · split
    · rw [Sp.last_append]; omega
    · split
      · rw [Sp.last_declare]; omega
      · split
        · rw [Sp.last_drop]; omega
        · split
          · rw [Sp.last_begins]; omega
          · rw [Sp.last_ends]; omega
theorem playAll_nil (s : Sp.St) : playAll s [] = s := rfl
theorem playAll_snoc (s : Sp.St) (l : List Jn.E) (e : Jn.E) : playAll s (l ++ [e]) = (played (playAll s l) e).1 := by simp [playAll]
theorem playAll_take (s : Sp.St) (l : List Jn.E) (k : Nat) (h : k < l.length) : playAll s (l.take (k + 1)) = (played (playAll s (l.take k)) l[k]).1 := by
  rw [List.take_succ_eq_append_getElem h, playAll_snoc]
theorem playAll_ok : ∀ (l : List Jn.E) {s : Sp.St}, Sp.Ok s → Sp.Ok (playAll s l)
  | [], _, h => h
  | e :: t, _, h => playAll_ok t (played_ok h e)
theorem playAll_last : ∀ (l : List Jn.E) (s : Sp.St), (playAll s l).last ≤ s.last + l.length
  | [], s => by simp [playAll]
  | e :: t, s => by
    have h1 := playAll_last t (played s e).1
    have h2 := played_last s e
    show (playAll (played s e).1 t).last ≤ _
    simp only [List.length_cons]; omega
theorem write_code {s : Sh} {r : Sp.St × Nat} {e : Jn.E} (h : r.2 ≠ 0) : write s r e = (s, r.2) := by unfold write; rw [if_pos h]
theorem write_bad {s : Sh} {r : Sp.St × Nat} {e : Jn.E} (h : r.2 = 0) (hf : Jn.fits e = false) : write s r e = (s, 1) := by unfold write; rw [if_neg (by simpa using h), if_pos hf]
theorem write_full {s : Sh} {r : Sp.St × Nat} {e : Jn.E} (h : r.2 = 0) (hf : Jn.fits e = true) (hl : 100000 < s.log.length + (Jn.enc e).length) : write s r e = (s, 16) := by unfold write; rw [if_neg (by simpa using h), if_neg (by simp [hf]), if_pos hl]
theorem write_yes {s : Sh} {r : Sp.St × Nat} {e : Jn.E} (h : r.2 = 0) (hf : Jn.fits e = true) (hl : ¬ 100000 < s.log.length + (Jn.enc e).length) : write s r e = (⟨r.1, s.log ++ Jn.enc e, s.sure⟩, 0) := by unfold write; rw [if_neg (by simpa using h), if_neg (by simp [hf]), if_neg hl]
theorem Ok.write {s : Sh} (h : Ok s) {r : Sp.St × Nat} (hr : Sp.Ok r.1) (hl : r.1.last ≤ s.h.last + 1) (e : Jn.E) : Ok (write s r e).1 := by
  unfold Sr.write
  split
  · exact h
  · split
    · exact h
    · split
      · exact h
      · rename_i h3
        have h1 := h.last; have h2 := h.sure
        have hp := Jn.enc_pos e
        refine ⟨hr, ?_, ?_, ?_⟩
        · simp only [List.length_append]; omega
        · simp only [List.length_append]; omega
        · simp only [List.length_append]; omega
theorem Ok.create {s : Sh} (h : Ok s) (size : Int) (m : ByteArray) : Ok (create s size m).1 := h.write (made_ok h.h _ _) (made_last _ _ _) _
theorem Ok.append {s : Sh} (h : Ok s) (id off : Int) (b : List UInt8) : Ok (append s id off b).1 := h.write (h.h.append ..) (by rw [Sp.last_append]; omega) _
theorem Ok.declare {s : Sh} (h : Ok s) (id size : Int) : Ok (declare s id size).1 := h.write (h.h.declare ..) (by rw [Sp.last_declare]; omega) _
theorem Ok.drop {s : Sh} (h : Ok s) (id : Int) : Ok (drop s id).1 := h.write (h.h.drop ..) (by rw [Sp.last_drop]; omega) _
theorem Ok.begins {s : Sh} (h : Ok s) (id : Int) : Ok (begins s id).1 := h.write (h.h.begins ..) (by rw [Sp.last_begins]; omega) _
theorem Ok.ends {s : Sh} (h : Ok s) (id : Int) : Ok (ends s id).1 := h.write (h.h.ends ..) (by rw [Sp.last_ends]; omega) _
theorem Ok.sync {s : Sh} (h : Ok s) : Ok (sync s) := ⟨h.h, h.last, Nat.le_refl _, h.few⟩
/-- what a crash leaves: bounds -/
theorem dec_le (s : Sh) (keep : Int) : (Jn.dec (s.log.take (left s keep))).2 ≤ s.log.length ∧ (Jn.dec (s.log.take (left s keep))).2 ≤ left s keep ∧ (Jn.dec (s.log.take (left s keep))).1.length ≤ (Jn.dec (s.log.take (left s keep))).2 := by
  obtain ⟨_, h2, _, h4⟩ := Jn.dec_back _ (s.log.take (left s keep)) (Nat.le_refl _)
  rw [List.length_take] at h2
  omega
theorem Ok.crash {s : Sh} (h : Ok s) (keep : Int) : Ok (crash s keep) := by
  obtain ⟨h1, _, h2⟩ := dec_le s keep
  have h3 := playAll_last (Jn.dec (s.log.take (left s keep))).1 Sp.new
  have h4 := h.few
  have h0 : Sp.new.last = 0 := rfl
  refine ⟨playAll_ok _ Sp.Ok.new, ?_, ?_, ?_⟩
  · show (playAll Sp.new _).last ≤ _
    simp only [Sr.crash, List.length_take]; omega
  · simp only [Sr.crash, List.length_take]; omega
  · simp only [Sr.crash, List.length_take]; omega
/-- a step that may be asked of a store: 0 to 5 as of a spool, 6 Sync, 7 Crash -/
abbrev X := Stp
def doH (s : Sp.St) (x : X) : Sp.St × Nat := if x.op = 0 then made s x.n x.text else if x.op = 1 then Sp.append s x.id x.n x.text.data.toList else if x.op = 2 then Sp.declare s x.id x.n else if x.op = 3 then Sp.drop s x.id else if x.op = 4 then Sp.begins s x.id else Sp.ends s x.id
def entry (s : Sp.St) (x : X) : Jn.E := if x.op = 0 then ⟨1, s.last + 1, x.n, x.text.data.toList⟩ else if x.op = 1 then ⟨2, x.id, 0, x.text.data.toList⟩ else if x.op = 2 then ⟨3, x.id, x.n, []⟩ else if x.op = 3 then ⟨4, x.id, 0, []⟩ else if x.op = 4 then ⟨5, x.id, 0, []⟩ else ⟨6, x.id, 0, []⟩
def step (s : Sh) (x : X) : Sh × Nat := if x.op = 0 then create s x.n x.text else if x.op = 1 then append s x.id x.n x.text.data.toList else if x.op = 2 then declare s x.id x.n else if x.op = 3 then drop s x.id else if x.op = 4 then begins s x.id else if x.op = 5 then ends s x.id else if x.op = 6 then (sync s, 0) else if x.op = 7 then (crash s x.n, 0) else (s, 0)
/-- the number that a step answers -/
def gave_ (s : Sh) (x : X) : Int := if x.op = 0 then numb s (create s x.n x.text).2 else 0
theorem Ok.step {s : Sh} (h : Ok s) (x : X) : Ok (step s x).1 := by
  unfold Sr.step
  split
  · exact h.create ..
  · split
    · exact h.append ..
    · split
      · exact h.declare ..
      · split
        · exact h.drop ..
        · split
          · exact h.begins ..
          · split
            · exact h.ends ..
            · split
              · exact h.sync
              · split
                · exact h.crash ..
                · exact h
end Go.Proofs.YtanpocgojmflgaaDoor.Sr

/- Plain: a store's log is what was done, one entry behind the other; what a crash leaves of it. -/
namespace Go.Proofs.YtanpocgojmflgaaDoor.Sr

theorem append_len {s : Sp.St} {id off : Int} {b : List UInt8} (h : (Sp.append s id off b).2 = 0) : off = lenOf s id := by
  cases hp : Sp.place s.l id with
  | none => rw [Sp.append_F, Sp.atUp_none hp] at h; simp at h
  | some i =>
    rw [Sp.append_F, Sp.atUp_some hp] at h
    rw [lenOf_some hp]
    unfold Sp.appF at h
    split at h
    · simp at h
    · split at h
      · simp at h
      · rename_i h2; simpa using h2
/-- the entry of a step that was done says it -/
theorem played_entry {s : Sp.St} {x : X} (h : (doH s x).2 = 0) : played s (entry s x) = doH s x := by
  by_cases h0 : x.op = 0
  · simp only [doH, entry, if_pos h0, played, if_true]
    rw [ofL_data]
  by_cases h1 : x.op = 1
  · simp only [doH, if_neg h0, if_pos h1] at h
    have := append_len h
    simp only [doH, entry, if_neg h0, if_pos h1, played]
    rw [if_neg (by decide), if_pos trivial, ← this]
  by_cases h2 : x.op = 2
  · simp only [doH, entry, if_neg h0, if_neg h1, if_pos h2, played]
    rw [if_neg (by decide), if_neg (by decide), if_pos trivial]
  by_cases h3 : x.op = 3
  · simp only [doH, entry, if_neg h0, if_neg h1, if_neg h2, if_pos h3, played]
    rw [if_neg (by decide), if_neg (by decide), if_neg (by decide), if_pos trivial]
  by_cases h4 : x.op = 4
  · simp only [doH, entry, if_neg h0, if_neg h1, if_neg h2, if_neg h3, if_pos h4, played]
    rw [if_neg (by decide), if_neg (by decide), if_neg (by decide), if_neg (by decide), if_pos trivial]
  · simp only [doH, entry, if_neg h0, if_neg h1, if_neg h2, if_neg h3, if_neg h4, played]
    rw [if_neg (by decide), if_neg (by decide), if_neg (by decide), if_neg (by decide), if_neg (by decide)]
/-- an entry that was written when there were these uploads -/
def Was (h : Sp.St) (e : Jn.E) : Prop := ∃ x : X, 0 ≤ x.op ∧ x.op ≤ 5 ∧ e = entry h x ∧ (doH h x).2 = 0 ∧ Jn.fits e = true
/-- entries that were written one behind the other -/
def Runs (es : List Jn.E) : Prop := ∀ i (hi : i < es.length), Was (playAll Sp.new (es.take i)) es[i]
theorem Runs.nil : Runs [] := fun i hi => by simp at hi
theorem Runs.snoc {es : List Jn.E} {e : Jn.E} (h : Runs es) (he : Was (playAll Sp.new es) e) : Runs (es ++ [e]) := by
  intro i hi
  by_cases hl : i < es.length
  · rw [List.take_append_of_le_length (by omega), List.getElem_append_left hl]; exact h i hl
  · have : i = es.length := by simp at hi; omega
    subst this
    simp only [List.take_left', List.getElem_append_right (Nat.le_refl _), Nat.sub_self, List.getElem_cons_zero]
    exact he
theorem Runs.take {es : List Jn.E} (h : Runs es) (k : Nat) : Runs (es.take k) := by
  intro i hi
  rw [List.length_take] at hi
  rw [List.take_take, Nat.min_eq_left (by omega), List.getElem_take]
  exact h i (by omega)
theorem Runs.fits {es : List Jn.E} (h : Runs es) : ∀ e ∈ es, Jn.fits e = true := fun e he => by
  obtain ⟨i, hi, rfl⟩ := List.getElem_of_mem he
  obtain ⟨x, _, _, _, _, h5⟩ := h i hi
  exact h5
/-- a store's log, and its uploads: m: so many entries are made sure of -/
structure Hist (s : Sh) (es : List Jn.E) (m : Nat) : Prop where
  log : s.log = Jn.all es
  runs : Runs es
  now : s.h = playAll Sp.new es
  le : m ≤ es.length
  sure : s.sure = (Jn.all (es.take m)).length
theorem Hist.new : Hist new [] 0 := ⟨rfl, Runs.nil, rfl, Nat.le_refl _, rfl⟩
theorem all_take_le (es : List Jn.E) (j : Nat) : (Jn.all (es.take j)).length ≤ (Jn.all es).length := by
  conv => rhs; rw [← List.take_append_drop j es, Jn.all_append, List.length_append]
  omega
theorem all_take (es : List Jn.E) (j : Nat) : (Jn.all es).take (Jn.all (es.take j)).length = Jn.all (es.take j) := by
  conv => lhs; rw [← List.take_append_drop j es, Jn.all_append]
  rw [List.take_append_drop, List.take_left']
  rfl
theorem whole_mono : ∀ (l : List Jn.E) (k k' : Nat), k ≤ k' → Jn.whole l k ≤ Jn.whole l k'
  | [], _, _, _ => Nat.le_refl _
  | e :: t, k, k', h => by
    unfold Jn.whole
    split
    · rw [if_pos (by omega)]
      have := whole_mono t (k - (Jn.enc e).length) (k' - (Jn.enc e).length) (by omega)
      omega
    · omega
theorem whole_of {es : List Jn.E} {m k : Nat} (hm : m ≤ es.length) (h : (Jn.all (es.take m)).length ≤ k) : m ≤ Jn.whole es k := by
  cases m with
  | zero => exact Nat.zero_le _
  | succ m => exact (Jn.endAt_whole es k m (by omega)).1 h
/-- what a crash leaves -/
theorem Hist.crash {s : Sh} {es : List Jn.E} {m : Nat} (h : Hist s es m) (keep : Int) : Hist (crash s keep) (es.take (Jn.whole es (left s keep))) (Jn.whole es (left s keep)) ∧ m ≤ Jn.whole es (left s keep) ∧ Jn.whole es (left s keep) ≤ es.length := by
  have hd := Jn.dec_cut es (left s keep) h.runs.fits
  have hj := Jn.whole_le es (left s keep)
  refine ⟨⟨?_, h.runs.take _, ?_, ?_, ?_⟩, ?_, hj⟩
  · simp only [Sr.crash]
    rw [h.log, hd]
    exact all_take es _
  · simp only [Sr.crash]
    rw [h.log, hd]
  · rw [List.length_take]; omega
  · simp only [Sr.crash]
    rw [h.log, hd, List.take_take, Nat.min_self]
  · refine whole_of h.le ?_
    unfold left
    rw [h.sure]; omega
theorem Hist.sync {s : Sh} {es : List Jn.E} {m : Nat} (h : Hist s es m) : Hist (sync s) es es.length := ⟨h.log, h.runs, h.now, Nat.le_refl _, by simp only [Sr.sync]; rw [List.take_length, h.log]⟩
/-- a step of the six: all is as it was, or its entry stands behind all -/
theorem step_six {s : Sh} {x : X} (h0 : 0 ≤ x.op) (h5 : x.op ≤ 5) : step s x = write s (doH s.h x) (entry s.h x) := by
  unfold step doH entry
  by_cases e0 : x.op = 0
  · simp only [if_pos e0]; rfl
  by_cases e1 : x.op = 1
  · simp only [if_neg e0, if_pos e1]; rfl
  by_cases e2 : x.op = 2
  · simp only [if_neg e0, if_neg e1, if_pos e2]; rfl
  by_cases e3 : x.op = 3
  · simp only [if_neg e0, if_neg e1, if_neg e2, if_pos e3]; rfl
  by_cases e4 : x.op = 4
  · simp only [if_neg e0, if_neg e1, if_neg e2, if_neg e3, if_pos e4]; rfl
  · have e5 : x.op = 5 := by omega
    simp only [if_neg e0, if_neg e1, if_neg e2, if_neg e3, if_neg e4, if_pos e5]; rfl
theorem Hist.six {s : Sh} {es : List Jn.E} {m : Nat} (h : Hist s es m) {x : X} (h0 : 0 ≤ x.op) (h5 : x.op ≤ 5) : ((step s x).1 = s) ∨ ∃ e, Hist (step s x).1 (es ++ [e]) m := by
  rw [step_six h0 h5]
  by_cases hc : (doH s.h x).2 = 0
  · cases hf : Jn.fits (entry s.h x) with
    | false => rw [write_bad hc hf]; exact Or.inl rfl
    | true =>
      by_cases hl : 100000 < s.log.length + (Jn.enc (entry s.h x)).length
      · rw [write_full hc hf hl]; exact Or.inl rfl
      · rw [write_yes hc hf hl]
        refine Or.inr ⟨entry s.h x, ⟨?_, ?_, ?_, ?_, ?_⟩⟩
        · simp only; rw [h.log, Jn.all_append]; simp [Jn.all]
        · refine h.runs.snoc ⟨x, h0, h5, by rw [← h.now], by rw [← h.now]; exact hc, hf⟩
        · simp only; rw [playAll_snoc, ← h.now, played_entry hc]
        · have := h.le; simp; omega
        · simp only; rw [List.take_append_of_le_length h.le]; exact h.sure
  · rw [write_code hc]; exact Or.inl rfl
/-- what a step leaves, whatever it is: the same, one entry more, all made sure of, or what a crash left -/
theorem Hist.step {s : Sh} {es : List Jn.E} {m : Nat} (h : Hist s es m) (x : X) : (x.op ≠ 6 ∧ x.op ≠ 7 ∧ ((Sr.step s x).1 = s ∨ ∃ e, Hist (Sr.step s x).1 (es ++ [e]) m)) ∨ ((x.op = 6 ∨ x.op = 7) ∧ ∃ es', Hist (Sr.step s x).1 es' es'.length) := by
  by_cases hx : 0 ≤ x.op ∧ x.op ≤ 5
  · exact Or.inl ⟨by omega, by omega, h.six hx.1 hx.2⟩
  · have n0 : ¬ x.op = 0 := by omega
    have n1 : ¬ x.op = 1 := by omega
    have n2 : ¬ x.op = 2 := by omega
    have n3 : ¬ x.op = 3 := by omega
    have n4 : ¬ x.op = 4 := by omega
    have n5 : ¬ x.op = 5 := by omega
    unfold Sr.step
    simp only [if_neg n0, if_neg n1, if_neg n2, if_neg n3, if_neg n4, if_neg n5]
    by_cases h6 : x.op = 6
    · rw [if_pos h6]; exact Or.inr ⟨Or.inl h6, es, h.sync⟩
    · by_cases h7 : x.op = 7
      · rw [if_neg h6, if_pos h7]
        obtain ⟨a, _, c⟩ := h.crash x.n
        refine Or.inr ⟨Or.inr h7, es.take (Jn.whole es (left s x.n)), ?_⟩
        have : (es.take (Jn.whole es (left s x.n))).length = Jn.whole es (left s x.n) := by rw [List.length_take]; omega
        rw [this]; exact a
      · rw [if_neg h6, if_neg h7]
        exact Or.inl ⟨h6, h7, Or.inl rfl⟩
end Go.Proofs.YtanpocgojmflgaaDoor.Sr

/- Plain: what was made sure of stays: the times at which a store's uploads were listed. -/
namespace Go.Proofs.YtanpocgojmflgaaDoor.Sr

/-- lists of uploads, one behind the other, in which stands what there was behind each entry from the m-th on, in their order -/
def Times (T : List (List Sp.Up)) (es : List Jn.E) (m : Nat) : Prop := ∀ j j' : Nat, m ≤ j → j ≤ j' → j' ≤ es.length → ∃ i i' : Nat, i ≤ i' ∧ T[i]? = some (playAll Sp.new (es.take j)).l ∧ T[i']? = some (playAll Sp.new (es.take j')).l
theorem Times.start {s : Sh} {es : List Jn.E} (h : s.h = playAll Sp.new es) : Times [s.h.l] es es.length := fun j j' h1 h2 h3 => by
  obtain rfl : j = es.length := by omega
  obtain rfl : j' = es.length := by omega
  exact ⟨0, 0, Nat.le_refl _, by simp [h], by simp [h]⟩
theorem get_left {α : Type} {T : List α} {x y : α} {i : Nat} (h : T[i]? = some y) : (T ++ [x])[i]? = some y := by
  have hi := (List.getElem?_eq_some_iff.1 h).1
  rw [List.getElem?_append_left hi]; exact h
theorem Times.same {T : List (List Sp.Up)} {es : List Jn.E} {m : Nat} (h : Times T es m) (x : List Sp.Up) : Times (T ++ [x]) es m := fun j j' h1 h2 h3 => by
  obtain ⟨i, i', a, b, c⟩ := h j j' h1 h2 h3
  exact ⟨i, i', a, get_left b, get_left c⟩
theorem Times.more {T : List (List Sp.Up)} {es : List Jn.E} {m : Nat} (h : Times T es m) {e : Jn.E} {s : Sh} (hs : s.h = playAll Sp.new (es ++ [e])) : Times (T ++ [s.h.l]) (es ++ [e]) m := fun j j' h1 h2 h3 => by
  have ht : ∀ k, k ≤ es.length → (es ++ [e]).take k = es.take k := fun k hk => List.take_append_of_le_length hk
  have hl : (es ++ [e]).take (es.length + 1) = es ++ [e] := List.take_of_length_le (by simp)
  have hlast : (T ++ [s.h.l])[T.length]? = some (playAll Sp.new (es ++ [e])).l := by rw [List.getElem?_append_right (Nat.le_refl _), Nat.sub_self, ← hs]; rfl
  rw [List.length_append] at h3
  simp only [List.length_cons, List.length_nil] at h3
  by_cases e1 : j' ≤ es.length
  · obtain ⟨i, i', a, b, c⟩ := h j j' h1 h2 e1
    rw [ht j (by omega), ht j' e1]
    exact ⟨i, i', a, get_left b, get_left c⟩
  · obtain rfl : j' = es.length + 1 := by omega
    rw [hl]
    by_cases e2 : j ≤ es.length
    · obtain ⟨i, i', a, b, c⟩ := h j es.length h1 e2 (Nat.le_refl _)
      have := (List.getElem?_eq_some_iff.1 b).1
      rw [ht j e2]
      exact ⟨i, T.length, by omega, get_left b, hlast⟩
    · obtain rfl : j = es.length + 1 := by omega
      rw [hl]
      exact ⟨T.length, T.length, Nat.le_refl _, hlast, hlast⟩
/-- a store, and the times since it was last made sure of -/
def Since (s : Sh) (T : List (List Sp.Up)) : Prop := ∃ es m, Hist s es m ∧ Times T es m
theorem Since.new : Since new [Sr.new.h.l] := ⟨[], 0, Hist.new, Times.start (s := Sr.new) rfl⟩
/-- the times behind a step -/
def timesOf (T : List (List Sp.Up)) (x : X) (l : List Sp.Up) : List (List Sp.Up) := (if x.op = 6 ∨ x.op = 7 then [] else T) ++ [l]
theorem Since.step {s : Sh} {T : List (List Sp.Up)} (h : Since s T) (x : X) : Since (step s x).1 (timesOf T x (step s x).1.h.l) := by
  obtain ⟨es, m, hh, ht⟩ := h
  rcases hh.step x with ⟨n6, n7, hc⟩ | ⟨hx, es', hs⟩
  · unfold timesOf
    rw [if_neg (by rintro (e | e); exact n6 e; exact n7 e)]
    rcases hc with hc | ⟨e, he⟩
    · rw [hc]; exact ⟨es, m, hh, ht.same _⟩
    · exact ⟨es ++ [e], m, he, ht.more he.now⟩
  · unfold timesOf
    rw [if_pos hx, List.nil_append]
    exact ⟨es', es'.length, hs, Times.start hs.now⟩
theorem left_mono (s : Sh) {k k' : Int} (h : k ≤ k') : left s k ≤ left s k' := by unfold left stays; omega
/-- behind a crash there is what was at some time; the more is kept, the later -/
theorem Since.crash {s : Sh} {T : List (List Sp.Up)} (h : Since s T) (k k' : Int) : ∃ i i' : Nat, T[i]? = some (crash s k).h.l ∧ T[i']? = some (crash s k').h.l ∧ (k ≤ k' → i ≤ i') := by
  obtain ⟨es, m, hh, ht⟩ := h
  obtain ⟨a1, a2, a3⟩ := hh.crash k
  obtain ⟨b1, b2, b3⟩ := hh.crash k'
  rw [a1.now, b1.now]
  by_cases hk : k ≤ k'
  · obtain ⟨i, i', c1, c2, c3⟩ := ht _ _ a2 (whole_mono es _ _ (left_mono s hk)) b3
    exact ⟨i, i', c2, c3, fun _ => c1⟩
  · obtain ⟨i, _, _, c2, _⟩ := ht _ _ a2 (Nat.le_refl _) a3
    obtain ⟨i', _, _, d2, _⟩ := ht _ _ b2 (Nat.le_refl _) b3
    exact ⟨i, i', c2, d2, fun e => absurd e hk⟩
/-- to crash again changes nothing -/
theorem crash_again {s : Sh} {es : List Jn.E} (h : Hist s es es.length) (k : Int) : Sr.crash s k = s := by
  have hl : s.sure = s.log.length := by rw [h.sure, List.take_length, h.log]
  have hleft : left s k = s.log.length := by unfold left stays; omega
  have hd := Jn.dec_cut es (Jn.all es).length h.runs.fits
  have hw : Jn.whole es (Jn.all es).length = es.length := by
    have h1 := Jn.whole_le es (Jn.all es).length
    have h2 := whole_of (m := es.length) (k := (Jn.all es).length) (Nat.le_refl _) (by rw [List.take_length]; exact Nat.le_refl _)
    omega
  rw [hw, List.take_length, List.take_length] at hd
  unfold Sr.crash
  rw [hleft, List.take_length, h.log, hd]
  obtain ⟨sh, slog, ssure⟩ := s
  have e1 := h.now; have e2 := h.log; have e3 := hl
  simp only at e1 e2 e3
  subst e2; subst e3
  rw [← e1]
  simp only [List.take_length]
theorem hist_crash {s : Sh} {es : List Jn.E} {m : Nat} (h : Hist s es m) (k : Int) : ∃ es', Hist (Sr.crash s k) es' es'.length := by
  obtain ⟨a, _, c⟩ := h.crash k
  refine ⟨es.take (Jn.whole es (left s k)), ?_⟩
  have : (es.take (Jn.whole es (left s k))).length = Jn.whole es (left s k) := by rw [List.length_take]; omega
  rw [this]; exact a
theorem Hist.any {s : Sh} {es : List Jn.E} {m : Nat} (h : Hist s es m) (x : X) : ∃ es' m', Hist (Sr.step s x).1 es' m' := by
  rcases h.step x with ⟨_, _, hc⟩ | ⟨_, es', hs⟩
  · rcases hc with hc | ⟨e, he⟩
    · rw [hc]; exact ⟨es, m, h⟩
    · exact ⟨_, _, he⟩
  · exact ⟨_, _, hs⟩
/-- what an entry asks of another store, in which all ahead of it was done -/
def again (h : Sp.St) (e : Jn.E) : X := ⟨e.kind - 1, e.id, if e.kind = 2 then lenOf h e.id else e.n, ofL e.text⟩
theorem again_op {h : Sp.St} {e : Jn.E} (hw : Was h e) : 0 ≤ (again h e).op ∧ (again h e).op ≤ 5 ∧ doH h (again h e) = played h e ∧ (played h e).2 = 0 ∧ entry h (again h e) = e := by
  obtain ⟨x, h0, h5, rfl, hc, hf⟩ := hw
  have hp := played_entry hc
  obtain ⟨op, id, n, tx⟩ := x
  simp only at h0 h5
  by_cases e0 : op = 0
  · subst e0
    refine ⟨by simp [again, entry], by simp [again, entry], ?_, by rw [hp]; exact hc, ?_⟩
    · rw [hp]; simp [doH, again, entry, ofL_data]
    · simp [again, entry, ofL_data]
  by_cases e1 : op = 1
  · subst e1
    have hl : n = lenOf h id := append_len (by simpa [doH] using hc)
    refine ⟨by simp [again, entry], by simp [again, entry], ?_, by rw [hp]; exact hc, ?_⟩
    · rw [hp]; simp [doH, again, entry, ofL_data, hl]
    · simp [again, entry, ofL_data]
  by_cases e2 : op = 2
  · subst e2
    exact ⟨by simp [again, entry], by simp [again, entry], by rw [hp]; simp [doH, again, entry], by rw [hp]; exact hc, by simp [again, entry]⟩
  by_cases e3 : op = 3
  · subst e3
    exact ⟨by simp [again, entry], by simp [again, entry], by rw [hp]; simp [doH, again, entry], by rw [hp]; exact hc, by simp [again, entry]⟩
  by_cases e4 : op = 4
  · subst e4
    exact ⟨by simp [again, entry], by simp [again, entry], by rw [hp]; simp [doH, again, entry], by rw [hp]; exact hc, by simp [again, entry]⟩
  · obtain rfl : op = 5 := by omega
    exact ⟨by simp [again, entry], by simp [again, entry], by rw [hp]; simp [doH, again, entry], by rw [hp]; exact hc, by simp [again, entry]⟩
/-- another store, in which the first k entries were done -/
def redone (es : List Jn.E) (k : Nat) : Sh := ⟨playAll Sp.new (es.take k), Jn.all (es.take k), 0⟩
theorem redone_zero (es : List Jn.E) : redone es 0 = new := by simp [redone, new, playAll, Jn.all]
theorem all_ge : ∀ l : List Jn.E, l.length ≤ (Jn.all l).length
  | [] => Nat.zero_le _
  | e :: t => by
    have := all_ge t
    have := Jn.enc_pos e
    rw [Jn.all_cons, List.length_append, List.length_cons]; omega
theorem redone_ok (es : List Jn.E) (hl : (Jn.all es).length ≤ 100000) (k : Nat) : Ok (redone es k) := by
  have h1 := playAll_last (es.take k) Sp.new
  have h2 := all_ge (es.take k)
  have h3 := all_take_le es k
  have h0 : Sp.new.last = 0 := rfl
  refine ⟨playAll_ok _ Sp.Ok.new, ?_, Nat.zero_le _, ?_⟩
  · show (playAll Sp.new (es.take k)).last ≤ ((Jn.all (es.take k)).length : Int); omega
  · show (Jn.all (es.take k)).length ≤ 100000; omega
/-- all of a log that was written is read as it was -/
theorem dec_all {es : List Jn.E} (h : Runs es) : Jn.dec (Jn.all es) = (es, (Jn.all es).length) := by
  have hd := Jn.dec_cut es (Jn.all es).length h.fits
  have hw : Jn.whole es (Jn.all es).length = es.length := by
    have h1 := Jn.whole_le es (Jn.all es).length
    have h2 := whole_of (m := es.length) (k := (Jn.all es).length) (Nat.le_refl _) (by rw [List.take_length]; exact Nat.le_refl _)
    omega
  rw [hw, List.take_length, List.take_length] at hd
  exact hd
theorem redone_step {es : List Jn.E} (h : Runs es) (hl : (Jn.all es).length ≤ 100000) {k : Nat} (hk : k < es.length) : step (redone es k) (again (playAll Sp.new (es.take k)) es[k]) = (redone es (k + 1), 0) := by
  obtain ⟨a0, a5, a1, a2, a3⟩ := again_op (h k hk)
  have hf := h.fits es[k] (List.getElem_mem hk)
  rw [step_six a0 a5]
  have hh : (redone es k).h = playAll Sp.new (es.take k) := rfl
  rw [hh, a1, a3]
  have hlen : (redone es k).log.length + (Jn.enc es[k]).length = (Jn.all (es.take (k + 1))).length := by
    rw [List.take_succ_eq_append_getElem hk, Jn.all_append, List.length_append]; simp [redone, Jn.all]
  have hle := all_take_le es (k + 1)
  rw [write_yes a2 hf (by omega)]
  have hlog : (redone es k).log ++ Jn.enc es[k] = Jn.all (es.take (k + 1)) := by rw [List.take_succ_eq_append_getElem hk, Jn.all_append]; simp [redone, Jn.all]
  rw [hlog, ← playAll_take Sp.new es k hk]
  rfl
theorem redone_end {s : Sh} {es : List Jn.E} (h : Hist s es es.length) : sync (redone es es.length) = s := by
  have hl : s.sure = s.log.length := by rw [h.sure, List.take_length, h.log]
  obtain ⟨sh, slog, ssure⟩ := s
  have e1 := h.now; have e2 := h.log
  simp only at e1 e2 hl
  subst hl
  simp only [sync, redone, List.take_length]
  rw [← e1, ← e2]
end Go.Proofs.YtanpocgojmflgaaDoor.Sr
