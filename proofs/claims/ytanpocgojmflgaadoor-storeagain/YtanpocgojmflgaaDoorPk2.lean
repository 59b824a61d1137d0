/- Small texts, one behind the other: PlainCK, PlainUA, PlainUB, PlainT. -/
import Derived.Test.YtanpocgojmflgaaDoorPk1
/- Plain laws of a body in chunks, with no program in them: what the document's own answer tells of all bytes, and a reader byte by byte. -/
namespace Go.Proofs.YtanpocgojmflgaaDoor.Ck

/-- what is told of bytes: what of the body came, how many bytes it took, is it over, a code -/
structure Told where
  body : List UInt8
  used : Nat
  over : Bool
  code : Nat
/-- a chunk's size, out of its line -/
def size (t : List UInt8) : Int × Bool := Ch.number 16 6 (Lib.trimS (t.take (Fd.at_ 59 t)) Ch.ws)
/-- lines behind the last chunk, n of them were there; f: at most so many rounds -/
def trail : Nat → List UInt8 → Nat → Told
  | 0, _, _ => ⟨[], 0, false, 0⟩
  | f + 1, l, n =>
    if (Ln.of l).code ≠ 0 ∨ (Ln.of l).ended = false then ⟨[], (Ln.of l).size, false, (Ln.of l).code⟩
    else if (Ln.of l).text = [] then ⟨[], (Ln.of l).size, true, 0⟩
    else if n = 16 then ⟨[], (Ln.of l).size, false, 8⟩
    else if (Fd.of (Ln.of l).text).code ≠ 0 then ⟨[], (Ln.of l).size, false, (Fd.of (Ln.of l).text).code⟩
    else let r := trail f (l.drop (Ln.of l).size) (n + 1); ⟨r.body, (Ln.of l).size + r.used, r.over, r.code⟩
/-- chunks, n bytes of the body were there -/
def go : Nat → List UInt8 → Nat → Told
  | 0, _, _ => ⟨[], 0, false, 0⟩
  | f + 1, l, n =>
    if (Ln.of l).code ≠ 0 ∨ (Ln.of l).ended = false then ⟨[], (Ln.of l).size, false, (Ln.of l).code⟩
    else if (size (Ln.of l).text).2 = false then ⟨[], (Ln.of l).size, false, 7⟩
    else if 4000 < n + (size (Ln.of l).text).1.toNat then ⟨[], (Ln.of l).size, false, 4⟩
    else if (size (Ln.of l).text).1.toNat = 0 then
      let r := trail (f + 1) (l.drop (Ln.of l).size) 0; ⟨r.body, (Ln.of l).size + r.used, r.over, r.code⟩
    else
      let k := (size (Ln.of l).text).1.toNat
      let d := l.drop (Ln.of l).size
      if d.length < k then ⟨d, (Ln.of l).size + d.length, false, 0⟩
      else
        let e := d.drop k
        if (Ln.of e).code ≠ 0 ∨ (Ln.of e).ended = false then ⟨d.take k, (Ln.of l).size + k + (Ln.of e).size, false, (Ln.of e).code⟩
        else if (Ln.of e).text ≠ [] then ⟨d.take k, (Ln.of l).size + k + (Ln.of e).size, false, 5⟩
        else let r := go f (e.drop (Ln.of e).size) (n + k); ⟨d.take k ++ r.body, (Ln.of l).size + k + (Ln.of e).size + r.used, r.over, r.code⟩
def of (l : List UInt8) : Told := go (l.length + 1) l 0

/-- what a reader keeps: where it stands (0 at a size, 1 in a chunk's bytes, 2 behind them, 3 behind the last chunk, 4 at the end), its line, how many bytes are left of a chunk, how many there are of the body, how many fields came, a code -/
structure St where
  ph : Nat
  ln : Ln.St
  left : Nat
  total : Nat
  count : Nat
  code : Nat
def start : St := ⟨0, Ln.start, 0, 0, 0, 0⟩
/-- behind a line's end -/
def line (s : St) (t : List UInt8) : St :=
  if s.ph = 0 then
    (if (size t).2 = false then { s with code := 7 }
     else if 4000 < s.total + (size t).1.toNat then { s with code := 4 }
     else if (size t).1.toNat = 0 then { s with ph := 3 }
     else { s with ph := 1, left := (size t).1.toNat, total := s.total + (size t).1.toNat })
  else if s.ph = 2 then (if t ≠ [] then { s with code := 5 } else { s with ph := 0 })
  else if t = [] then { s with ph := 4 }
  else if s.count = 16 then { s with code := 8 }
  else if (Fd.of t).code ≠ 0 then { s with code := (Fd.of t).code }
  else { s with count := s.count + 1 }
/-- behind a byte -/
def next (s : St) (c : UInt8) : St :=
  if s.code ≠ 0 then s
  else if s.ph = 4 then { s with code := 18 }
  else if s.ph = 1 then { s with left := s.left - 1, ph := if s.left ≤ 1 then 2 else 1 }
  else if (Ln.next s.ln c).code ≠ 0 then { s with code := (Ln.next s.ln c).code }
  else if Ln.ends s.ln c = true then line { s with ln := Ln.start } (Ln.text s.ln c)
  else { s with ln := Ln.next s.ln c }
/-- what a byte brings of the body -/
def out (s : St) (c : UInt8) : List UInt8 := if s.code = 0 ∧ s.ph = 1 then [c] else []
/-- what is told, byte by byte, to the first code or the end -/
def run : St → List UInt8 → Told
  | _, [] => ⟨[], 0, false, 0⟩
  | s, c :: t =>
    if (next s c).code ≠ 0 then ⟨out s c, 1, false, (next s c).code⟩
    else if (next s c).ph = 4 then ⟨out s c, 1, true, 0⟩
    else ⟨out s c ++ (run (next s c) t).body, 1 + (run (next s c) t).used, (run (next s c) t).over, (run (next s c) t).code⟩
/-- the same, but for how many bytes where nothing was told -/
structure Same (a b : Told) : Prop where
  body : a.body = b.body
  over : a.over = b.over
  code : a.code = b.code
  used : (a.code ≠ 0 ∨ a.over = true) → a.used = b.used
theorem Same.refl (a : Told) : Same a a := ⟨rfl, rfl, rfl, fun _ => rfl⟩
/-- behind some bytes -/
def shift (x : List UInt8) (k : Nat) (r : Told) : Told := ⟨x ++ r.body, k + r.used, r.over, r.code⟩
theorem Same.shift {a b : Told} (h : Same a b) (x : List UInt8) (k : Nat) : Same (Ck.shift x k a) (Ck.shift x k b) :=
  ⟨by simp [Ck.shift, h.body], h.over, h.code, fun e => by show k + a.used = k + b.used; rw [h.used e]⟩
theorem shift_shift (x y : List UInt8) (j k : Nat) (r : Told) : shift x j (shift y k r) = shift (x ++ y) (j + k) r := by
  simp [shift, Nat.add_assoc]
theorem run_quiet {s : St} {c : UInt8} (t : List UInt8) (h1 : (next s c).code = 0) (h2 : (next s c).ph ≠ 4) : run s (c :: t) = shift (out s c) 1 (run (next s c) t) := by
  rw [run, if_neg (by omega), if_neg h2]; rfl
/-- at a line -/
structure AtLine (s : St) : Prop where
  code : s.code = 0
  ph : s.ph = 0 ∨ s.ph = 2 ∨ s.ph = 3
  ln : s.ln = Ln.start
theorem next_in {s : St} {x : Ln.St} (h : AtLine s) (c : UInt8) (hq : Ln.ends x c = false) (hc : (Ln.next x c).code = 0) : next { s with ln := x } c = { s with ln := Ln.next x c } := by
  have h1 := h.code
  have h2 := h.ph
  unfold next
  rw [if_neg (by simpa using h1), if_neg (by show ¬ s.ph = 4; omega), if_neg (by show ¬ s.ph = 1; omega), if_neg (by simpa using hc), if_neg (by simp [hq])]
theorem out_in {s : St} {x : Ln.St} (h : AtLine s) (c : UInt8) : out { s with ln := x } c = [] := by
  have h2 := h.ph
  unfold out
  rw [if_neg (fun e => by have : s.ph = 1 := e.2; omega)]
/-- the bytes of a line bring nothing -/
theorem run_line {s : St} (h : AtLine s) (l : List UInt8) : ∀ j, j ≤ l.length → ((Ln.of l).size = 0 ∨ j < (Ln.of l).size) → run s l = shift [] j (run { s with ln := Ln.fold Ln.start (l.take j) } (l.drop j))
  | 0, _, _ => by
    have e : { s with ln := Ln.fold Ln.start (l.take 0) } = s := by
      have := h.ln
      cases s
      simp only at this
      subst this
      rfl
    rw [e]
    simp [shift]
  | j + 1, hj, hs => by
    have hlt : j < l.length := by omega
    rw [run_line h l j (by omega) (by omega), List.drop_eq_getElem_cons hlt]
    obtain ⟨hE, hC⟩ := Ln.fold_quiet l j hlt (by omega)
    have hn := next_in h l[j] hE hC
    have h1 := h.code
    have h2 := h.ph
    rw [run_quiet _ (by rw [hn]; exact h1) (by rw [hn]; show s.ph ≠ 4; omega), out_in h, hn, shift_shift, List.nil_append, List.take_succ_eq_append_getElem hlt, Ln.fold_snoc]
/-- no line yet -/
theorem run_open {s : St} (h : AtLine s) (l : List UInt8) (ho : (Ln.of l).size = 0) : (run s l).body = [] ∧ (run s l).over = false ∧ (run s l).code = 0 := by
  rw [run_line h l l.length (Nat.le_refl _) (Or.inl ho), List.drop_length]
  exact ⟨rfl, rfl, rfl⟩
/-- a line, or a code -/
theorem run_told {s : St} (h : AtLine s) (l : List UInt8) (ho : 0 < (Ln.of l).size) : run s l =
    if (Ln.of l).code ≠ 0 then ⟨[], (Ln.of l).size, false, (Ln.of l).code⟩
    else if (line s (Ln.of l).text).code ≠ 0 then ⟨[], (Ln.of l).size, false, (line s (Ln.of l).text).code⟩
    else if (line s (Ln.of l).text).ph = 4 then ⟨[], (Ln.of l).size, true, 0⟩
    else shift [] (Ln.of l).size (run (line s (Ln.of l).text) (l.drop (Ln.of l).size)) := by
  obtain ⟨j, hj⟩ : ∃ j, (Ln.of l).size = j + 1 := ⟨(Ln.of l).size - 1, by omega⟩
  have hle := Ln.of_le l
  have hlt : j < l.length := by omega
  have h1 := h.code
  have h2 := h.ph
  obtain ⟨hE, hC, hT⟩ := Ln.fold_last l j hlt hj.symm
  have hsl : { s with ln := Ln.start } = s := by
    have := h.ln
    cases s
    simp only at this
    subst this
    rfl
  have hn : next { s with ln := Ln.fold Ln.start (l.take j) } l[j] = if (Ln.of l).code ≠ 0 then { s with ln := Ln.fold Ln.start (l.take j), code := (Ln.of l).code } else line s (Ln.of l).text := by
    unfold next
    rw [if_neg (by simpa using h1), if_neg (by show ¬ s.ph = 4; omega), if_neg (by show ¬ s.ph = 1; omega)]
    show (if (Ln.next (Ln.fold Ln.start (l.take j)) l[j]).code ≠ 0 then _ else if Ln.ends (Ln.fold Ln.start (l.take j)) l[j] = true then line { s with ln := Ln.start } (Ln.text (Ln.fold Ln.start (l.take j)) l[j]) else _) = _
    rw [hC]
    by_cases hc : (Ln.of l).code = 0
    · have hcn : ¬ (Ln.of l).code ≠ 0 := by omega
      rw [if_neg hcn, if_neg hcn, hE, hT, hsl]
      rcases Ln.of_kind l with hk | hk | hk
      · omega
      · rw [if_pos hk.2]
      · exact absurd hc hk.1
    · rw [if_pos hc, if_pos hc]
  rw [run_line h l j (by omega) (Or.inr (by omega)), List.drop_eq_getElem_cons hlt, run, hn, out_in h, hj]
  by_cases hc : (Ln.of l).code = 0
  · have hcn : ¬ (Ln.of l).code ≠ 0 := by omega
    simp only [if_neg hcn]
    by_cases hlc : (line s (Ln.of l).text).code = 0
    · have hln : ¬ (line s (Ln.of l).text).code ≠ 0 := by omega
      simp only [if_neg hln]
      by_cases h4 : (line s (Ln.of l).text).ph = 4
      · rw [if_pos h4, if_pos h4]; simp [shift]
      · rw [if_neg h4, if_neg h4]; simp [shift, Nat.add_assoc]
    · rw [if_pos hlc, if_pos hlc]; simp [shift]
  · rw [if_pos hc]
    rw [if_pos (show ({ s with ln := Ln.fold Ln.start (l.take j), code := (Ln.of l).code } : St).code ≠ 0 from hc), if_pos hc]
    simp [shift]
/-- in a chunk's bytes -/
theorem run_bytes (s : St) (h0 : s.code = 0) : ∀ (k : Nat) (l : List UInt8), run { s with ph := 1, left := k + 1 } l =
    if l.length < k + 1 then ⟨l, l.length, false, 0⟩ else shift (l.take (k + 1)) (k + 1) (run { s with ph := 2, left := 0 } (l.drop (k + 1)))
  | k, [] => by rw [if_pos (by simp)]; rfl
  | k, c :: t => by
    have ho : out { s with ph := 1, left := k + 1 } c = [c] := by unfold out; rw [if_pos ⟨h0, rfl⟩]
    cases k with
    | zero =>
      have hn : next { s with ph := 1, left := 0 + 1 } c = { s with ph := 2, left := 0 } := by
        unfold next
        rw [if_neg (by simpa using h0), if_neg (by show ¬ 1 = 4; omega), if_pos rfl]
        rfl
      rw [run_quiet t (by rw [hn]; exact h0) (by rw [hn]; show 2 ≠ 4; omega), ho, hn, if_neg (by simp)]
      rfl
    | succ k =>
      have hn : next { s with ph := 1, left := k + 1 + 1 } c = { s with ph := 1, left := k + 1 } := by
        unfold next
        rw [if_neg (by simpa using h0), if_neg (by show ¬ 1 = 4; omega), if_pos rfl]
        show ({ s with ph := if k + 1 + 1 ≤ 1 then 2 else 1, left := k + 1 + 1 - 1 } : St) = _
        rw [if_neg (by omega)]
        rfl
      rw [run_quiet t (by rw [hn]; exact h0) (by rw [hn]; show 1 ≠ 4; omega), ho, hn, run_bytes s h0 k t]
      by_cases hl : t.length < k + 1
      · rw [if_pos hl, if_pos (by simp; omega)]
        simp [shift]; omega
      · rw [if_neg hl, if_neg (by simp; omega), shift_shift]
        have e : k + 1 + 1 = (k + 1) + 1 := rfl
        rw [e, List.take_succ_cons, List.drop_succ_cons, Nat.add_comm 1 (k + 1)]
        rfl
end Go.Proofs.YtanpocgojmflgaaDoor.Ck

/- Plain: uploads, as a spool keeps them, step by step; and what always holds of them. -/
namespace Go.Proofs.YtanpocgojmflgaaDoor.Sp

/-- an upload -/
structure Up where
  id : Int
  size : Int
  note : ByteArray
  bytes : List UInt8
  sent : Int
/-- a spool: its uploads by their numbers, and the number that was given last -/
structure St where
  l : List Up
  last : Int
def new : St := ⟨[], 0⟩
def used : List Up → Nat
  | [] => 0
  | u :: t => u.bytes.length + used t
/-- where an upload stands -/
def place : List Up → Int → Option Nat
  | [], _ => none
  | u :: t, id => if u.id = id then some 0 else (place t id).map (· + 1)
/-- a step at an upload that there is, or the code 10 -/
def atUp (s : St) (id : Int) (f : Nat → Up → St × Nat) : St × Nat :=
  match place s.l id with
  | none => (s, 10)
  | some i => match s.l[i]? with
    | none => (s, 10)
    | some u => f i u
def create (s : St) (size : Int) (m : ByteArray) : St × Int × Nat :=
  if size < -1 then (s, 0, 1) else if 2000 < size ∨ 100 < m.size then (s, 0, 4) else if Ch.isVisible m.data.toList = false ∨ Lib.trimS m.data.toList Ch.ws ≠ m.data.toList then (s, 0, 3) else if 12 ≤ s.l.length then (s, 0, 8)
  else (⟨s.l ++ [⟨s.last + 1, size, m, [], 0⟩], s.last + 1⟩, s.last + 1, 0)
def append (s : St) (id off : Int) (b : List UInt8) : St × Nat := atUp s id fun i u =>
  if u.sent ≠ 0 then (s, 19) else if off ≠ u.bytes.length then (s, 17) else if 2000 < u.bytes.length + b.length ∨ (0 ≤ u.size ∧ u.size < u.bytes.length + b.length) then (s, 4) else if 6000 < used s.l + b.length then (s, 16)
  else (⟨s.l.set i { u with bytes := u.bytes ++ b }, s.last⟩, 0)
def declare (s : St) (id size : Int) : St × Nat := atUp s id fun i u =>
  if 0 ≤ u.size then (s, 18) else if size < 0 then (s, 1) else if 2000 < size ∨ size < u.bytes.length then (s, 4)
  else (⟨s.l.set i { u with size := size }, s.last⟩, 0)
def drop (s : St) (id : Int) : St × Nat := atUp s id fun i _ => (⟨s.l.eraseIdx i, s.last⟩, 0)
def begins (s : St) (id : Int) : St × Nat := atUp s id fun i u =>
  if u.sent ≠ 0 then (s, 19) else if u.size ≠ u.bytes.length then (s, 14) else (⟨s.l.set i { u with sent := 1 }, s.last⟩, 0)
def ends (s : St) (id : Int) : St × Nat := atUp s id fun i u =>
  if u.sent ≠ 1 then (s, 19) else (⟨s.l.set i { u with sent := 2 }, s.last⟩, 0)

/-- what holds of an upload -/
structure UpOk (last : Int) (u : Up) : Prop where
  low : 1 ≤ u.id
  high : u.id ≤ last
  size0 : -1 ≤ u.size
  size1 : u.size ≤ 2000
  long : u.bytes.length ≤ 2000
  fits : 0 ≤ u.size → u.bytes.length ≤ u.size
  sent0 : 0 ≤ u.sent
  sent2 : u.sent ≤ 2
  whole : u.sent ≠ 0 → u.size = u.bytes.length
  note : u.note.size ≤ 100
/-- what holds of a spool, whatever was asked of it -/
structure Ok (s : St) : Prop where
  few : s.l.length ≤ 12
  quota : used s.l ≤ 6000
  last0 : 0 ≤ s.last
  rise : (s.l.map (·.id)).Pairwise (· < ·)
  all : ∀ u ∈ s.l, UpOk s.last u
theorem Ok.new : Ok new := ⟨by simp [Sp.new], by simp [Sp.new, used], by simp [Sp.new], by simp [Sp.new], fun u h => by simp [Sp.new] at h⟩
theorem used_append : ∀ a b : List Up, used (a ++ b) = used a + used b
  | [], b => by simp [used]
  | u :: t, b => by rw [List.cons_append, used, used, used_append t b]; omega
theorem used_set : ∀ (l : List Up) (i : Nat) (u v : Up), l[i]? = some u → used (l.set i v) + u.bytes.length = used l + v.bytes.length
  | [], i, u, v, h => by simp at h
  | x :: t, 0, u, v, h => by
    have h : x = u := by simpa using h
    subst h
    rw [List.set_cons_zero, used, used]; omega
  | x :: t, i + 1, u, v, h => by
    have := used_set t i u v (by simpa using h)
    rw [List.set_cons_succ, used, used]; omega
theorem used_erase : ∀ (l : List Up) (i : Nat), used (l.eraseIdx i) ≤ used l
  | [], i => by simp [used]
  | x :: t, 0 => by rw [List.eraseIdx_cons_zero, used]; omega
  | x :: t, i + 1 => by have := used_erase t i; rw [List.eraseIdx_cons_succ, used, used]; omega
theorem place_at : ∀ (l : List Up) (id : Int) (i : Nat), place l id = some i → ∃ u, l[i]? = some u ∧ u.id = id
  | [], id, i, h => by cases h
  | x :: t, id, i, h => by
    rw [place] at h
    split at h
    · rename_i hx; injection h with h; subst h; exact ⟨x, rfl, hx⟩
    · cases hp : place t id with
      | none => rw [hp] at h; cases h
      | some j =>
        rw [hp] at h
        injection h with h
        obtain ⟨u, h1, h2⟩ := place_at t id j hp
        subst h
        exact ⟨u, by simpa using h1, h2⟩
/-- an upload turned in its place -/
theorem Ok.set {s : St} (h : Ok s) {i : Nat} {u v : Up} (hu : s.l[i]? = some u) (hid : v.id = u.id) (hv : UpOk s.last v) (hq : used s.l + v.bytes.length ≤ 6000 + u.bytes.length) : Ok ⟨s.l.set i v, s.last⟩ := by
  refine ⟨by simpa using h.few, ?_, h.last0, ?_, fun x hx => ?_⟩
  · have := used_set s.l i u v hu
    show used (s.l.set i v) ≤ 6000
    omega
  · have : (s.l.set i v).map (·.id) = s.l.map (·.id) := by
      rw [List.map_set, hid]
      refine List.ext_getElem? fun k => ?_
      rw [List.getElem?_set]
      split
      · rename_i e
        subst e
        split
        · rw [List.getElem?_map, hu]; rfl
        · rename_i hk
          rw [List.getElem?_eq_none (by omega)]
      · rfl
    show ((s.l.set i v).map (·.id)).Pairwise (· < ·)
    rw [this]; exact h.rise
  · rcases List.mem_or_eq_of_mem_set hx with hx | hx
    · exact h.all x hx
    · subst hx; exact hv
theorem Ok.at_ {s : St} (h : Ok s) {id : Int} {f : Nat → Up → St × Nat} (hf : ∀ i u, s.l[i]? = some u → Ok (f i u).1) : Ok (atUp s id f).1 := by
  unfold atUp
  split
  · exact h
  · split
    · exact h
    · rename_i i hi _ u hu; exact hf i u hu
theorem Ok.create {s : St} (h : Ok s) (size : Int) (m : ByteArray) : Ok (create s size m).1 := by
  unfold Sp.create
  split
  · exact h
  · split
    · exact h
    · split
      · exact h
      · split
        · exact h
        · rename_i h1 h2 _ h4
          have hl := h.last0
          refine ⟨by simp; omega, ?_, by show 0 ≤ s.last + 1; omega, ?_, fun u hu => ?_⟩
          · show used (s.l ++ [_]) ≤ 6000
            rw [used_append]
            have := h.quota
            simp [used]; omega
          · show ((s.l ++ [(⟨s.last + 1, size, m, [], 0⟩ : Up)]).map (·.id)).Pairwise (· < ·)
            rw [List.map_append, List.pairwise_append]
            refine ⟨h.rise, by simp, fun a ha b hb => ?_⟩
            obtain ⟨u, hu, rfl⟩ := List.mem_map.1 ha
            have := (h.all u hu).high
            simp at hb
            subst hb
            show u.id < s.last + 1
            omega
          · rcases List.mem_append.1 hu with hu | hu
            · have := h.all u hu
              exact ⟨this.low, by have := this.high; show u.id ≤ s.last + 1; omega, this.size0, this.size1, this.long, this.fits, this.sent0, this.sent2, this.whole, this.note⟩
            · rw [List.mem_singleton.1 hu]
              exact ⟨by show 1 ≤ s.last + 1; omega, Int.le_refl _, by show -1 ≤ size; omega, by show size ≤ 2000; omega, by simp, fun e => by simpa using e, by simp, by simp, fun e => absurd rfl e, by show m.size ≤ 100; omega⟩
theorem Ok.append {s : St} (h : Ok s) (id off : Int) (b : List UInt8) : Ok (append s id off b).1 := by
  refine h.at_ fun i u hu => ?_
  have hk := h.all u (List.mem_of_getElem? hu)
  have hq := h.quota
  split
  · exact h
  · split
    · exact h
    · split
      · exact h
      · split
        · exact h
        · rename_i h1 h2 h3 h4
          refine h.set hu rfl ⟨hk.low, hk.high, hk.size0, hk.size1, by simp; omega, fun e => ?_, hk.sent0, hk.sent2, fun e => absurd e (by simpa using h1), hk.note⟩ (by simp; omega)
          have e' : 0 ≤ u.size := e
          simp only [List.length_append]
          omega
theorem Ok.declare {s : St} (h : Ok s) (id size : Int) : Ok (declare s id size).1 := by
  refine h.at_ fun i u hu => ?_
  have hk := h.all u (List.mem_of_getElem? hu)
  have hq := h.quota
  split
  · exact h
  · split
    · exact h
    · split
      · exact h
      · rename_i h1 h2 h3
        refine h.set hu rfl ⟨hk.low, hk.high, by show -1 ≤ size; omega, by show size ≤ 2000; omega, hk.long, fun _ => by show (u.bytes.length : Int) ≤ size; omega, hk.sent0, hk.sent2, fun e => ?_, hk.note⟩ (by show used s.l + u.bytes.length ≤ _; omega)
        have := hk.whole e
        omega
theorem Ok.drop {s : St} (h : Ok s) (id : Int) : Ok (drop s id).1 := by
  refine h.at_ fun i u hu => ?_
  refine ⟨Nat.le_trans (List.length_eraseIdx_le ..) h.few, Nat.le_trans (used_erase s.l i) h.quota, h.last0, ?_, fun x hx => h.all x (List.mem_of_mem_eraseIdx hx)⟩
  show ((s.l.eraseIdx i).map (·.id)).Pairwise (· < ·)
  exact h.rise.sublist ((List.eraseIdx_sublist s.l i).map _)
theorem Ok.begins {s : St} (h : Ok s) (id : Int) : Ok (begins s id).1 := by
  refine h.at_ fun i u hu => ?_
  have hk := h.all u (List.mem_of_getElem? hu)
  have hq := h.quota
  split
  · exact h
  · split
    · exact h
    · rename_i h1 h2
      exact h.set hu rfl ⟨hk.low, hk.high, hk.size0, hk.size1, hk.long, hk.fits, by simp, by simp, fun _ => by simpa using h2, hk.note⟩ (by show used s.l + u.bytes.length ≤ _; omega)
theorem Ok.ends {s : St} (h : Ok s) (id : Int) : Ok (ends s id).1 := by
  refine h.at_ fun i u hu => ?_
  have hk := h.all u (List.mem_of_getElem? hu)
  have hq := h.quota
  split
  · exact h
  · rename_i h1
    have h1' : u.sent = 1 := by simpa using h1
    exact h.set hu rfl ⟨hk.low, hk.high, hk.size0, hk.size1, hk.long, hk.fits, by simp, by simp, fun _ => hk.whole (by rw [h1']; decide), hk.note⟩ (by show used s.l + u.bytes.length ≤ _; omega)
end Go.Proofs.YtanpocgojmflgaaDoor.Sp

/- Plain: uploads: where one stands, how many bytes all have, as loops find it. -/
namespace Go.Proofs.YtanpocgojmflgaaDoor.Sp

theorem used_take (l : List Up) (k : Nat) (h : k < l.length) : used (l.take (k + 1)) = used (l.take k) + l[k].bytes.length := by
  rw [List.take_succ_eq_append_getElem h, used_append]
  simp [used]
theorem used_le (l : List Up) (k : Nat) : used (l.take k) ≤ used l := by
  conv => rhs; rw [← List.take_append_drop k l, used_append]
  omega
theorem used_one (l : List Up) (k : Nat) (h : k < l.length) : l[k].bytes.length ≤ used l := by
  have h1 := used_take l k h
  have h2 := used_le l (k + 1)
  omega
theorem place_of : ∀ (l : List Up) (id : Int) (k : Nat) (h : k < l.length), l[k].id = id → (∀ u ∈ l.take k, u.id ≠ id) → place l id = some k
  | x :: t, id, 0, _, e, _ => by rw [place, if_pos (by simpa using e)]
  | x :: t, id, k + 1, h, e, hn => by
    rw [place, if_neg (hn x (by simp)), place_of t id k (by simpa using h) (by simpa using e) (fun u hu => hn u (by simp [hu]))]
    rfl
theorem place_no : ∀ (l : List Up) (id : Int), (∀ u ∈ l, u.id ≠ id) → place l id = none
  | [], _, _ => rfl
  | x :: t, id, hn => by
    rw [place, if_neg (hn x (by simp)), place_no t id (fun u hu => hn u (by simp [hu]))]
    rfl
theorem place_lt {l : List Up} {id : Int} {i : Nat} (h : place l id = some i) : i < l.length := by
  obtain ⟨u, hu, _⟩ := place_at l id i h
  exact (List.getElem?_eq_some_iff.1 hu).1
theorem atUp_none {s : St} {id : Int} {f : Nat → Up → St × Nat} (h : place s.l id = none) : atUp s id f = (s, 10) := by
  unfold atUp; rw [h]
theorem atUp_some {s : St} {id : Int} {f : Nat → Up → St × Nat} {i : Nat} (h : place s.l id = some i) : atUp s id f = f i (s.l[i]'(place_lt h)) := by
  unfold atUp; rw [h]
  simp only [List.getElem?_eq_getElem (place_lt h)]
/-- where an upload stands, as a number: -1: there is none -/
def pl (l : List Up) (id : Int) : Int := match place l id with
  | none => -1
  | some i => i
theorem pl_none {l : List Up} {id : Int} (h : place l id = none) : pl l id = -1 := by unfold pl; rw [h]
theorem pl_some {l : List Up} {id : Int} {i : Nat} (h : place l id = some i) : pl l id = i := by unfold pl; rw [h]
theorem last_le_create (s : St) (size : Int) (m : ByteArray) : (create s size m).1.last ≤ s.last + 1 := by
  unfold create
  split
  · show s.last ≤ _; omega
  · split
    · show s.last ≤ _; omega
    · split
      · show s.last ≤ _; omega
      · split
        · show s.last ≤ _; omega
        · exact Int.le_refl _
theorem last_atUp (s : St) (id : Int) (f : Nat → Up → St × Nat) (hf : ∀ i u, (f i u).1.last = s.last) : (atUp s id f).1.last = s.last := by
  unfold atUp
  split
  · rfl
  · split
    · rfl
    · exact hf _ _
theorem last_append (s : St) (id off : Int) (b : List UInt8) : (append s id off b).1.last = s.last := last_atUp s id _ fun i u => by
  split
  · rfl
  · split
    · rfl
    · split
      · rfl
      · split <;> rfl
theorem last_declare (s : St) (id size : Int) : (declare s id size).1.last = s.last := last_atUp s id _ fun i u => by
  split
  · rfl
  · split
    · rfl
    · split <;> rfl
theorem last_drop (s : St) (id : Int) : (drop s id).1.last = s.last := last_atUp s id _ fun _ _ => rfl
theorem last_begins (s : St) (id : Int) : (begins s id).1.last = s.last := last_atUp s id _ fun i u => by
  split
  · rfl
  · split <;> rfl
theorem last_ends (s : St) (id : Int) : (ends s id).1.last = s.last := last_atUp s id _ fun i u => by
  split <;> rfl
/-- the steps at an upload, by themselves -/
def appF (s : St) (off : Int) (b : List UInt8) (i : Nat) (u : Up) : St × Nat :=
  if u.sent ≠ 0 then (s, 19) else if off ≠ u.bytes.length then (s, 17) else if 2000 < u.bytes.length + b.length ∨ (0 ≤ u.size ∧ u.size < u.bytes.length + b.length) then (s, 4) else if 6000 < used s.l + b.length then (s, 16)
  else (⟨s.l.set i { u with bytes := u.bytes ++ b }, s.last⟩, 0)
def decF (s : St) (size : Int) (i : Nat) (u : Up) : St × Nat :=
  if 0 ≤ u.size then (s, 18) else if size < 0 then (s, 1) else if 2000 < size ∨ size < u.bytes.length then (s, 4)
  else (⟨s.l.set i { u with size := size }, s.last⟩, 0)
def drpF (s : St) (i : Nat) (_ : Up) : St × Nat := (⟨s.l.eraseIdx i, s.last⟩, 0)
def begF (s : St) (i : Nat) (u : Up) : St × Nat :=
  if u.sent ≠ 0 then (s, 19) else if u.size ≠ u.bytes.length then (s, 14) else (⟨s.l.set i { u with sent := 1 }, s.last⟩, 0)
def endF (s : St) (i : Nat) (u : Up) : St × Nat :=
  if u.sent ≠ 1 then (s, 19) else (⟨s.l.set i { u with sent := 2 }, s.last⟩, 0)
theorem append_F (s : St) (id off : Int) (b : List UInt8) : append s id off b = atUp s id (appF s off b) := rfl
theorem declare_F (s : St) (id size : Int) : declare s id size = atUp s id (decF s size) := rfl
theorem drop_F (s : St) (id : Int) : drop s id = atUp s id (drpF s) := rfl
theorem begins_F (s : St) (id : Int) : begins s id = atUp s id (begF s) := rfl
theorem ends_F (s : St) (id : Int) : ends s id = atUp s id (endF s) := rfl
end Go.Proofs.YtanpocgojmflgaaDoor.Sp

/- Texts without blanks at their ends, again. -/
namespace Go.Proofs.YtanpocgojmflgaaDoor
open Go.RowKit

theorem trimS_le (l : List UInt8) : (Lib.trimS l Ch.ws).length ≤ l.length := by
  unfold Lib.trimS Lib.trimLeftS Lib.trimRightS
  have h1 := (List.dropWhile_suffix (l := (l.reverse.dropWhile (Ch.ws.contains ·)).reverse) (Ch.ws.contains ·)).length_le
  have h2 := (List.dropWhile_suffix (l := l.reverse) (Ch.ws.contains ·)).length_le
  simp only [List.length_reverse] at h1 h2
  omega

theorem drop_again (p : UInt8 → Bool) : ∀ l : List UInt8, (l.dropWhile p).dropWhile p = l.dropWhile p
  | [] => rfl
  | a :: t => by
    rw [List.dropWhile_cons]
    cases hp : p a
    · simp only [Bool.false_eq_true, if_false]
      rw [List.dropWhile_cons, hp]
      rfl
    · simp only [if_true]
      exact drop_again p t

theorem trimS_again (l : List UInt8) : Lib.trimS (Lib.trimS l Ch.ws) Ch.ws = Lib.trimS l Ch.ws := by
  conv => lhs; rw [← Ch.trim_both]
  have h1 : Lib.trimLeftS (Lib.trimS l Ch.ws) Ch.ws = Lib.trimS l Ch.ws := drop_again _ _
  rw [h1, ← Ch.trim_both]
  unfold Lib.trimRightS
  rw [List.reverse_reverse, drop_again]
end Go.Proofs.YtanpocgojmflgaaDoor
