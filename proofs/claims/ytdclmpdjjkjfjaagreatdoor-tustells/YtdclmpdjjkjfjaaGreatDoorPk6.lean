/- Small texts, one behind the other: PlainSA, PlainTu, PlainTx, PlainSB, PlainTv, PlainTw, PlainTn. -/
import Derived.Test.YtdclmpdjjkjfjaaGreatDoorPk1
import Derived.Test.YtdclmpdjjkjfjaaGreatDoorPk2
/- Plain: a store: uploads, and a log of what was done to them; no program in it. -/
namespace Go.Proofs.YtdclmpdjjkjfjaaGreatDoor.Sr

/-- a text of these bytes -/
def ofL (l : List UInt8) : ByteArray := ⟨l.toArray⟩
theorem ofL_data (m : ByteArray) : ofL m.data.toList = m := by cases m; simp [ofL]
theorem ofL_list (l : List UInt8) : (ofL l).data.toList = l := by simp [ofL]
theorem ofL_size (l : List UInt8) : (ofL l).size = l.length := by simp [ofL, ByteArray.size]
/-- a store: its uploads, its log, how many bytes of it are made sure of -/
structure Sh where
  h : Sp.St
  log : List UInt8
  sure : Nat
def new : Sh := ⟨Sp.new, [], 0⟩
/-- an upload is made -/
def made (s : Sp.St) (size : Int) (m : ByteArray) : Sp.St × Nat := ((Sp.create s size m).1, (Sp.create s size m).2.2)
/-- how many bytes an upload has; 0 where there is none -/
def lenOf (s : Sp.St) (id : Int) : Nat := match Sp.place s.l id with
  | none => 0
  | some i => match s.l[i]? with
    | none => 0
    | some u => u.bytes.length
theorem lenOf_none {s : Sp.St} {id : Int} (h : Sp.place s.l id = none) : lenOf s id = 0 := by unfold lenOf; rw [h]
theorem lenOf_some {s : Sp.St} {id : Int} {i : Nat} (h : Sp.place s.l id = some i) : lenOf s id = (s.l[i]'(Sp.place_lt h)).bytes.length := by
  unfold lenOf; rw [h]; simp only [List.getElem?_eq_getElem (Sp.place_lt h)]
/-- what an entry says is done -/
def played (s : Sp.St) (e : Jn.E) : Sp.St × Nat :=
  if e.kind = 1 then made s e.n (ofL e.text) else if e.kind = 2 then Sp.append s e.id (lenOf s e.id) e.text else if e.kind = 3 then Sp.declare s e.id e.n else if e.kind = 4 then Sp.drop s e.id else if e.kind = 5 then Sp.begins s e.id else Sp.ends s e.id
def playAll (s : Sp.St) (l : List Jn.E) : Sp.St := l.foldl (fun h e => (played h e).1) s
/-- something was done to the uploads, or not; its entry is written, or not -/
def write (s : Sh) (r : Sp.St × Nat) (e : Jn.E) : Sh × Nat :=
  if r.2 ≠ 0 then (s, r.2) else if Jn.fits e = false then (s, 1) else if 100000 < s.log.length + (Jn.enc e).length then (s, 16) else (⟨r.1, s.log ++ Jn.enc e, s.sure⟩, 0)
def create (s : Sh) (size : Int) (m : ByteArray) : Sh × Nat := write s (made s.h size m) ⟨1, s.h.last + 1, size, m.data.toList⟩
/-- the number that Create answers -/
def numb (s : Sh) (c : Nat) : Int := if c = 0 then s.h.last + 1 else 0
def append (s : Sh) (id off : Int) (b : List UInt8) : Sh × Nat := write s (Sp.append s.h id off b) ⟨2, id, 0, b⟩
def declare (s : Sh) (id size : Int) : Sh × Nat := write s (Sp.declare s.h id size) ⟨3, id, size, []⟩
def drop (s : Sh) (id : Int) : Sh × Nat := write s (Sp.drop s.h id) ⟨4, id, 0, []⟩
def begins (s : Sh) (id : Int) : Sh × Nat := write s (Sp.begins s.h id) ⟨5, id, 0, []⟩
def ends (s : Sh) (id : Int) : Sh × Nat := write s (Sp.ends s.h id) ⟨6, id, 0, []⟩
def sync (s : Sh) : Sh := ⟨s.h, s.log, s.log.length⟩
def stays (keep : Int) (d : Nat) : Nat := min (max keep 0).toNat d
/-- how many bytes of the log a crash leaves -/
def left (s : Sh) (keep : Int) : Nat := s.sure + stays keep (s.log.length - s.sure)
def crash (s : Sh) (keep : Int) : Sh := ⟨playAll Sp.new (Jn.dec (s.log.take (left s keep))).1, s.log.take (Jn.dec (s.log.take (left s keep))).2, (Jn.dec (s.log.take (left s keep))).2⟩
/-- what holds of a store, whatever was asked of it -/
structure Ok (s : Sh) : Prop where
  h : Sp.Ok s.h
  last : s.h.last ≤ s.log.length
  sure : s.sure ≤ s.log.length
  few : s.log.length ≤ 100000
theorem Ok.new : Ok new := ⟨Sp.Ok.new, by simp [Sr.new, Sp.new], by simp [Sr.new], by simp [Sr.new]⟩
theorem Ok.last_ {s : Sh} (h : Ok s) : s.h.last ≤ 100000 := by have := h.last; have := h.few; omega
theorem left_le {s : Sh} (h : s.sure ≤ s.log.length) (keep : Int) : left s keep ≤ s.log.length := by unfold left stays; omega
theorem made_ok {s : Sp.St} (h : Sp.Ok s) (size : Int) (m : ByteArray) : Sp.Ok (made s size m).1 := h.create size m
theorem made_last (s : Sp.St) (size : Int) (m : ByteArray) : (made s size m).1.last ≤ s.last + 1 := Sp.last_le_create s size m
theorem played_ok {s : Sp.St} (h : Sp.Ok s) (e : Jn.E) : Sp.Ok (played s e).1 := by
  unfold played
  split
  · exact made_ok h _ _
  · split
    · exact h.append ..
    · split
      · exact h.declare ..
      · split
        · exact h.drop ..
        · split
          · exact h.begins ..
          · exact h.ends ..
theorem played_last (s : Sp.St) (e : Jn.E) : (played s e).1.last ≤ s.last + 1 := by
  unfold played
  split
  · exact made_last s _ _
  · split
    · rw [Sp.last_append]; omega
    · split
      · rw [Sp.last_declare]; omega
      · split
        · rw [Sp.last_drop]; omega
        · split
          · rw [Sp.last_begins]; omega
          · rw [Sp.last_ends]; omega
theorem playAll_nil (s : Sp.St) : playAll s [] = s := rfl
theorem playAll_snoc (s : Sp.St) (l : List Jn.E) (e : Jn.E) : playAll s (l ++ [e]) = (played (playAll s l) e).1 := by simp [playAll]
theorem playAll_take (s : Sp.St) (l : List Jn.E) (k : Nat) (h : k < l.length) : playAll s (l.take (k + 1)) = (played (playAll s (l.take k)) l[k]).1 := by
  rw [List.take_succ_eq_append_getElem h, playAll_snoc]
theorem playAll_ok : ∀ (l : List Jn.E) {s : Sp.St}, Sp.Ok s → Sp.Ok (playAll s l)
  | [], _, h => h
  | e :: t, _, h => playAll_ok t (played_ok h e)
theorem playAll_last : ∀ (l : List Jn.E) (s : Sp.St), (playAll s l).last ≤ s.last + l.length
  | [], s => by simp [playAll]
  | e :: t, s => by
    have h1 := playAll_last t (played s e).1
    have h2 := played_last s e
    show (playAll (played s e).1 t).last ≤ _
    simp only [List.length_cons]; omega
theorem write_code {s : Sh} {r : Sp.St × Nat} {e : Jn.E} (h : r.2 ≠ 0) : write s r e = (s, r.2) := by unfold write; rw [if_pos h]
theorem write_bad {s : Sh} {r : Sp.St × Nat} {e : Jn.E} (h : r.2 = 0) (hf : Jn.fits e = false) : write s r e = (s, 1) := by unfold write; rw [if_neg (by simpa using h), if_pos hf]
theorem write_full {s : Sh} {r : Sp.St × Nat} {e : Jn.E} (h : r.2 = 0) (hf : Jn.fits e = true) (hl : 100000 < s.log.length + (Jn.enc e).length) : write s r e = (s, 16) := by unfold write; rw [if_neg (by simpa using h), if_neg (by simp [hf]), if_pos hl]
theorem write_yes {s : Sh} {r : Sp.St × Nat} {e : Jn.E} (h : r.2 = 0) (hf : Jn.fits e = true) (hl : ¬ 100000 < s.log.length + (Jn.enc e).length) : write s r e = (⟨r.1, s.log ++ Jn.enc e, s.sure⟩, 0) := by unfold write; rw [if_neg (by simpa using h), if_neg (by simp [hf]), if_neg hl]
theorem Ok.write {s : Sh} (h : Ok s) {r : Sp.St × Nat} (hr : Sp.Ok r.1) (hl : r.1.last ≤ s.h.last + 1) (e : Jn.E) : Ok (write s r e).1 := by
  unfold Sr.write
  split
  · exact h
  · split
    · exact h
    · split
      · exact h
      · rename_i h3
        have h1 := h.last; have h2 := h.sure
        have hp := Jn.enc_pos e
        refine ⟨hr, ?_, ?_, ?_⟩
        · simp only [List.length_append]; omega
        · simp only [List.length_append]; omega
        · simp only [List.length_append]; omega
theorem Ok.create {s : Sh} (h : Ok s) (size : Int) (m : ByteArray) : Ok (create s size m).1 := h.write (made_ok h.h _ _) (made_last _ _ _) _
theorem Ok.append {s : Sh} (h : Ok s) (id off : Int) (b : List UInt8) : Ok (append s id off b).1 := h.write (h.h.append ..) (by rw [Sp.last_append]; omega) _
theorem Ok.declare {s : Sh} (h : Ok s) (id size : Int) : Ok (declare s id size).1 := h.write (h.h.declare ..) (by rw [Sp.last_declare]; omega) _
theorem Ok.drop {s : Sh} (h : Ok s) (id : Int) : Ok (drop s id).1 := h.write (h.h.drop ..) (by rw [Sp.last_drop]; omega) _
theorem Ok.begins {s : Sh} (h : Ok s) (id : Int) : Ok (begins s id).1 := h.write (h.h.begins ..) (by rw [Sp.last_begins]; omega) _
theorem Ok.ends {s : Sh} (h : Ok s) (id : Int) : Ok (ends s id).1 := h.write (h.h.ends ..) (by rw [Sp.last_ends]; omega) _
theorem Ok.sync {s : Sh} (h : Ok s) : Ok (sync s) := ⟨h.h, h.last, Nat.le_refl _, h.few⟩
/-- what a crash leaves: bounds -/
theorem dec_le (s : Sh) (keep : Int) : (Jn.dec (s.log.take (left s keep))).2 ≤ s.log.length ∧ (Jn.dec (s.log.take (left s keep))).2 ≤ left s keep ∧ (Jn.dec (s.log.take (left s keep))).1.length ≤ (Jn.dec (s.log.take (left s keep))).2 := by
  obtain ⟨_, h2, _, h4⟩ := Jn.dec_back _ (s.log.take (left s keep)) (Nat.le_refl _)
  rw [List.length_take] at h2
  omega
theorem Ok.crash {s : Sh} (h : Ok s) (keep : Int) : Ok (crash s keep) := by
  obtain ⟨h1, _, h2⟩ := dec_le s keep
  have h3 := playAll_last (Jn.dec (s.log.take (left s keep))).1 Sp.new
  have h4 := h.few
  have h0 : Sp.new.last = 0 := rfl
  refine ⟨playAll_ok _ Sp.Ok.new, ?_, ?_, ?_⟩
  · show (playAll Sp.new _).last ≤ _
    simp only [Sr.crash, List.length_take]; omega
  · simp only [Sr.crash, List.length_take]; omega
  · simp only [Sr.crash, List.length_take]; omega
/-- a step that may be asked of a store: 0 to 5 as of a spool, 6 Sync, 7 Crash -/
abbrev X := Stp
def doH (s : Sp.St) (x : X) : Sp.St × Nat := if x.op = 0 then made s x.n x.text else if x.op = 1 then Sp.append s x.id x.n x.text.data.toList else if x.op = 2 then Sp.declare s x.id x.n else if x.op = 3 then Sp.drop s x.id else if x.op = 4 then Sp.begins s x.id else Sp.ends s x.id
def entry (s : Sp.St) (x : X) : Jn.E := if x.op = 0 then ⟨1, s.last + 1, x.n, x.text.data.toList⟩ else if x.op = 1 then ⟨2, x.id, 0, x.text.data.toList⟩ else if x.op = 2 then ⟨3, x.id, x.n, []⟩ else if x.op = 3 then ⟨4, x.id, 0, []⟩ else if x.op = 4 then ⟨5, x.id, 0, []⟩ else ⟨6, x.id, 0, []⟩
def step (s : Sh) (x : X) : Sh × Nat := if x.op = 0 then create s x.n x.text else if x.op = 1 then append s x.id x.n x.text.data.toList else if x.op = 2 then declare s x.id x.n else if x.op = 3 then drop s x.id else if x.op = 4 then begins s x.id else if x.op = 5 then ends s x.id else if x.op = 6 then (sync s, 0) else if x.op = 7 then (crash s x.n, 0) else (s, 0)
/-- the number that a step answers -/
def gave_ (s : Sh) (x : X) : Int := if x.op = 0 then numb s (create s x.n x.text).2 else 0
theorem Ok.step {s : Sh} (h : Ok s) (x : X) : Ok (step s x).1 := by
  unfold Sr.step
  split
  · exact h.create ..
  · split
    · exact h.append ..
    · split
      · exact h.declare ..
      · split
        · exact h.drop ..
        · split
          · exact h.begins ..
          · split
            · exact h.ends ..
            · split
              · exact h.sync
              · split
                · exact h.crash ..
                · exact h
end Go.Proofs.YtdclmpdjjkjfjaaGreatDoor.Sr

/- Plain: uploads in pieces, as they are asked for: a reply, and what becomes of a store; no program in it. -/
namespace Go.Proofs.YtdclmpdjjkjfjaaGreatDoor.Tu

/-- /files -/
def bFiles : ByteArray := ⟨#[47, 102, 105, 108, 101, 115]⟩
/-- /files/ -/
def bFilesS : ByteArray := ⟨#[47, 102, 105, 108, 101, 115, 47]⟩
/-- OPTIONS -/
def mOpt : ByteArray := ⟨#[79, 80, 84, 73, 79, 78, 83]⟩
/-- POST -/
def mPost : ByteArray := ⟨#[80, 79, 83, 84]⟩
/-- HEAD -/
def mHead : ByteArray := ⟨#[72, 69, 65, 68]⟩
/-- DELETE -/
def mDel : ByteArray := ⟨#[68, 69, 76, 69, 84, 69]⟩
/-- PATCH -/
def mPat : ByteArray := ⟨#[80, 65, 84, 67, 72]⟩
/-- tus-resumable -/
def nTR : ByteArray := ⟨#[116, 117, 115, 45, 114, 101, 115, 117, 109, 97, 98, 108, 101]⟩
/-- upload-length -/
def nUL : ByteArray := ⟨#[117, 112, 108, 111, 97, 100, 45, 108, 101, 110, 103, 116, 104]⟩
/-- upload-defer-length -/
def nUD : ByteArray := ⟨#[117, 112, 108, 111, 97, 100, 45, 100, 101, 102, 101, 114, 45, 108, 101, 110, 103, 116, 104]⟩
/-- upload-metadata -/
def nUM : ByteArray := ⟨#[117, 112, 108, 111, 97, 100, 45, 109, 101, 116, 97, 100, 97, 116, 97]⟩
/-- content-type -/
def nCT : ByteArray := ⟨#[99, 111, 110, 116, 101, 110, 116, 45, 116, 121, 112, 101]⟩
/-- upload-offset -/
def nUO : ByteArray := ⟨#[117, 112, 108, 111, 97, 100, 45, 111, 102, 102, 115, 101, 116]⟩
/-- Tus-Resumable -/
def fTR : ByteArray := ⟨#[84, 117, 115, 45, 82, 101, 115, 117, 109, 97, 98, 108, 101]⟩
/-- 1.0.0 -/
def v100 : ByteArray := ⟨#[49, 46, 48, 46, 48]⟩
/-- Tus-Version -/
def fTV : ByteArray := ⟨#[84, 117, 115, 45, 86, 101, 114, 115, 105, 111, 110]⟩
/-- Tus-Max-Size -/
def fTX : ByteArray := ⟨#[84, 117, 115, 45, 77, 97, 120, 45, 83, 105, 122, 101]⟩
/-- 2000 -/
def v2000 : ByteArray := ⟨#[50, 48, 48, 48]⟩
/-- Tus-Extension -/
def fTE : ByteArray := ⟨#[84, 117, 115, 45, 69, 120, 116, 101, 110, 115, 105, 111, 110]⟩
/-- creation,creation-defer-length,termination -/
def vTE : ByteArray := ⟨#[99, 114, 101, 97, 116, 105, 111, 110, 44, 99, 114, 101, 97, 116, 105, 111, 110, 45, 100, 101, 102, 101, 114, 45, 108, 101, 110, 103, 116, 104, 44, 116, 101, 114, 109, 105, 110, 97, 116, 105, 111, 110]⟩
/-- Location -/
def fLo : ByteArray := ⟨#[76, 111, 99, 97, 116, 105, 111, 110]⟩
/-- Upload-Offset -/
def fUO : ByteArray := ⟨#[85, 112, 108, 111, 97, 100, 45, 79, 102, 102, 115, 101, 116]⟩
/-- Upload-Length -/
def fUL : ByteArray := ⟨#[85, 112, 108, 111, 97, 100, 45, 76, 101, 110, 103, 116, 104]⟩
/-- Upload-Defer-Length -/
def fUD : ByteArray := ⟨#[85, 112, 108, 111, 97, 100, 45, 68, 101, 102, 101, 114, 45, 76, 101, 110, 103, 116, 104]⟩
/-- 1 -/
def vOne : ByteArray := ⟨#[49]⟩
/-- Cache-Control -/
def fCC : ByteArray := ⟨#[67, 97, 99, 104, 101, 45, 67, 111, 110, 116, 114, 111, 108]⟩
/-- no-store -/
def vNS : ByteArray := ⟨#[110, 111, 45, 115, 116, 111, 114, 101]⟩
/-- Upload-Metadata -/
def fUM : ByteArray := ⟨#[85, 112, 108, 111, 97, 100, 45, 77, 101, 116, 97, 100, 97, 116, 97]⟩
/-- application/offset+octet-stream -/
def vOff : ByteArray := ⟨#[97, 112, 112, 108, 105, 99, 97, 116, 105, 111, 110, 47, 111, 102, 102, 115, 101, 116, 43, 111, 99, 116, 101, 116, 45, 115, 116, 114, 101, 97, 109]⟩
/-- a field, by its values -/
def one (vs : List ByteArray) : List UInt8 × Nat :=
  match vs with
  | [] => ([], 10)
  | [v] => (v.data.toList, 0)
  | _ => ([], 9)
/-- the values of a name's fields -/
def vals (name : ByteArray) (l : List (ByteArray × ByteArray)) : List ByteArray := (l.filter fun p => decide (Ch.lower p.1.data.toList = Ch.lower name.data.toList)).map (·.2)
/-- the number of a field; -1: it is not there; false: it is none, or there are several -/
def numIn (r : List UInt8 × Nat) : Int × Bool := if r.2 = 10 then (-1, true) else ((Ch.number 10 9 r.1).1, (Ch.number 10 9 r.1).2 && decide (r.2 = 0))
/-- a reply: its status, its fields -/
abbrev Rep := Nat × List (ByteArray × ByteArray)
def said (st : Nat) (l : List (ByteArray × ByteArray)) : Rep := (st, (fTR, v100) :: l)
/-- what a code comes to -/
def status (c : Nat) : Nat := if c = 10 then 404 else if c = 17 ∨ c = 19 then 409 else if c = 4 then 413 else if c = 8 ∨ c = 16 then 507 else 400
def dec (n : Nat) : ByteArray := ⟨(Ch.decF 8 n).toArray⟩
/-- the number that a target names, of nine digits at most, as short as can be -/
def numT (t : ByteArray) : Option Int :=
  if 7 < t.size ∧ t.data.toList.take 7 = bFilesS.data.toList ∧ (Ch.number 10 9 (t.data.toList.drop 7)).2 = true ∧ Ch.decF 8 (Ch.number 10 9 (t.data.toList.drop 7)).1.toNat = t.data.toList.drop 7 then some (Ch.number 10 9 (t.data.toList.drop 7)).1 else none
/-- the upload that a target names -/
def upAt (s : Sp.St) (t : ByteArray) : Option Sp.Up := match numT t with
  | none => none
  | some n => match Sp.place s.l n with
    | none => none
    | some i => s.l[i]?
/-- one more upload -/
def post (s : Sr.Sh) (m : ByteArray) (l : List (ByteArray × ByteArray)) : Sr.Sh × Rep :=
  if m ≠ mPost then (s, said 405 [])
  else if (numIn (one (vals nUL l))).2 = false then (s, said 400 [])
  else if (one (vals nUD l)).2 = 9 ∨ ((one (vals nUD l)).2 = 0 ∧ (one (vals nUD l)).1 ≠ vOne.data.toList) ∨ (0 ≤ (numIn (one (vals nUL l))).1 ↔ (one (vals nUD l)).2 = 0) then (s, said 400 [])
  else if (one (vals nUM l)).2 = 9 then (s, said 400 [])
  else if (Sr.create s (numIn (one (vals nUL l))).1 (Sr.ofL (one (vals nUM l)).1)).2 ≠ 0 then (s, said (status (Sr.create s (numIn (one (vals nUL l))).1 (Sr.ofL (one (vals nUM l)).1)).2) [])
  else (Sr.sync (Sr.create s (numIn (one (vals nUL l))).1 (Sr.ofL (one (vals nUM l)).1)).1, said 201 [(fLo, bFilesS ++ dec (s.h.last + 1).toNat)])
/-- what is told of an upload -/
def head (u : Sp.Up) : Rep := said 200 ((fUO, dec u.bytes.length) :: (if u.size < 0 then (fUD, vOne) else (fUL, dec u.size.toNat)) :: (fCC, vNS) :: (if u.note.size = 0 then [] else [(fUM, u.note)]))
/-- is a value of this type? -/
def isOff (v : List UInt8) : Bool := match Pm.media v with
  | .inl _ => false
  | .inr x => decide (x.1 = vOff.data.toList)
/-- is a length told that was not told yet? -/
def tell (u : Sp.Up) (l : List (ByteArray × ByteArray)) : Prop := 0 ≤ (numIn (one (vals nUL l))).1 ∧ u.size < 0
instance (u : Sp.Up) (l : List (ByteArray × ByteArray)) : Decidable (tell u l) := by unfold tell; exact inferInstance
/-- bytes behind those that there are -/
def patch (s : Sr.Sh) (u : Sp.Up) (l : List (ByteArray × ByteArray)) (body : List UInt8) : Sr.Sh × Rep :=
  if (one (vals nCT l)).2 = 9 then (s, said 400 [])
  else if isOff (one (vals nCT l)).1 = false then (s, said 415 [])
  else if (numIn (one (vals nUO l))).2 = false ∨ (numIn (one (vals nUO l))).1 < 0 then (s, said 400 [])
  else if (numIn (one (vals nUO l))).1 ≠ u.bytes.length then (s, said 409 [])
  else if (numIn (one (vals nUL l))).2 = false ∨ (0 ≤ (numIn (one (vals nUL l))).1 ∧ 0 ≤ u.size ∧ (numIn (one (vals nUL l))).1 ≠ u.size) then (s, said 400 [])
  else if tell u l ∧ (2000 < (numIn (one (vals nUL l))).1 ∨ (numIn (one (vals nUL l))).1 < u.bytes.length + body.length) then (s, said 413 [])
  else if 100000 < s.log.length + (body.length + 60) then (s, said 507 [])
  else if (Sr.append s u.id u.bytes.length body).2 ≠ 0 then (s, said (status (Sr.append s u.id u.bytes.length body).2) [])
  else (Sr.sync (if tell u l then (Sr.declare (Sr.append s u.id u.bytes.length body).1 u.id (numIn (one (vals nUL l))).1).1 else (Sr.append s u.id u.bytes.length body).1), said 204 [(fUO, dec (u.bytes.length + body.length))])
/-- what is asked of an upload that there is -/
def ask (s : Sr.Sh) (u : Sp.Up) (m : ByteArray) (l : List (ByteArray × ByteArray)) (body : List UInt8) : Sr.Sh × Rep :=
  if m = mHead then (s, head u)
  else if m = mDel then (if (Sr.drop s u.id).2 ≠ 0 then (s, said (status (Sr.drop s u.id).2) []) else (Sr.sync (Sr.drop s u.id).1, said 204 []))
  else if m = mPat then patch s u l body else (s, said 405 [])
def tus (s : Sr.Sh) (m t : ByteArray) (l : List (ByteArray × ByteArray)) (body : List UInt8) : Sr.Sh × Rep :=
  if t = bFiles ∧ m = mOpt then (s, said 204 [(fTV, v100), (fTX, v2000), (fTE, vTE)])
  else if (one (vals nTR l)).2 = 9 then (s, said 400 [])
  else if (one (vals nTR l)).1 ≠ v100.data.toList then (s, said 412 [(fTV, v100)])
  else if t = bFiles then post s m l
  else match upAt s.h t with
    | none => (s, said 404 [])
    | some u => ask s u m l body

/-! ### what holds of it -/
theorem write_same {s : Sr.Sh} {r : Sp.St × Nat} {e : Jn.E} (h : (Sr.write s r e).2 ≠ 0) : (Sr.write s r e).1 = s := by
  unfold Sr.write at h ⊢
  split
  · rfl
  · split
    · rfl
    · split
      · rfl
      · rename_i h1 h2 h3
        rw [if_neg h1, if_neg h2, if_neg h3] at h
        exact absurd rfl h
theorem upAt_mem {s : Sp.St} {t : ByteArray} {u : Sp.Up} (h : upAt s t = some u) : u ∈ s.l ∧ ∃ n i, numT t = some n ∧ Sp.place s.l n = some i ∧ s.l[i]? = some u ∧ u.id = n := by
  unfold upAt at h
  split at h
  · cases h
  · rename_i n hn
    split at h
    · cases h
    · rename_i i hi
      obtain ⟨x, hx, hid⟩ := Sp.place_at s.l n i hi
      rw [hx] at h
      injection h with h
      subst h
      exact ⟨List.mem_of_getElem? hx, n, i, hn, hi, hx, hid⟩
theorem post_ok {s : Sr.Sh} (h : Sr.Ok s) (m : ByteArray) (l : List (ByteArray × ByteArray)) : Sr.Ok (post s m l).1 := by
  unfold post
  repeat' split
  all_goals first
    | exact h
    | exact (h.create _ _).sync
theorem patch_ok {s : Sr.Sh} (h : Sr.Ok s) (u : Sp.Up) (l : List (ByteArray × ByteArray)) (body : List UInt8) : Sr.Ok (patch s u l body).1 := by
  unfold patch
  repeat' split
  all_goals first
    | exact h
    | exact ((h.append _ _ _).declare _ _).sync
    | exact (h.append _ _ _).sync
theorem ask_ok {s : Sr.Sh} (h : Sr.Ok s) (u : Sp.Up) (m : ByteArray) (l : List (ByteArray × ByteArray)) (body : List UInt8) : Sr.Ok (ask s u m l body).1 := by
  unfold ask
  repeat' split
  all_goals first
    | exact h
    | exact (h.drop _).sync
    | exact patch_ok h u l body
theorem tus_ok {s : Sr.Sh} (h : Sr.Ok s) (m t : ByteArray) (l : List (ByteArray × ByteArray)) (body : List UInt8) : Sr.Ok (tus s m t l body).1 := by
  unfold tus
  split
  · exact h
  · split
    · exact h
    · split
      · exact h
      · split
        · exact post_ok h m l
        · split
          · exact h
          · exact ask_ok h _ m l body
/-- WHAT IS REFUSED CHANGES NOTHING, WHAT IS GRANTED IS MADE SURE OF -/
structure Fair (s : Sr.Sh) (r : Sr.Sh × Rep) : Prop where
  same : 400 ≤ r.2.1 → r.1 = s
  sure : r.1 = s ∨ r.1.sure = r.1.log.length
  first : ∃ t, r.2.2 = (fTR, v100) :: t
theorem fair_same {s : Sr.Sh} (st : Nat) (l : List (ByteArray × ByteArray)) : Fair s (s, said st l) := ⟨fun _ => rfl, Or.inl rfl, _, rfl⟩
theorem fair_sync {s x : Sr.Sh} (st : Nat) (l : List (ByteArray × ByteArray)) (h : st < 400) : Fair s (Sr.sync x, said st l) := ⟨fun e => absurd e (by show ¬ 400 ≤ st; omega), Or.inr rfl, _, rfl⟩
theorem post_fair (s : Sr.Sh) (m : ByteArray) (l : List (ByteArray × ByteArray)) : Fair s (post s m l) := by
  unfold post
  repeat' split
  all_goals first
    | exact fair_same _ _
    | exact fair_sync _ _ (by decide)
theorem patch_fair (s : Sr.Sh) (u : Sp.Up) (l : List (ByteArray × ByteArray)) (body : List UInt8) : Fair s (patch s u l body) := by
  unfold patch
  repeat' split
  all_goals first
    | exact fair_same _ _
    | exact fair_sync _ _ (by decide)
theorem ask_fair (s : Sr.Sh) (u : Sp.Up) (m : ByteArray) (l : List (ByteArray × ByteArray)) (body : List UInt8) : Fair s (ask s u m l body) := by
  unfold ask
  repeat' split
  all_goals first
    | exact fair_same _ _
    | exact fair_sync _ _ (by decide)
    | exact patch_fair s u l body
theorem tus_fair (s : Sr.Sh) (m t : ByteArray) (l : List (ByteArray × ByteArray)) (body : List UInt8) : Fair s (tus s m t l body) := by
  unfold tus
  split
  · exact fair_same _ _
  · split
    · exact fair_same _ _
    · split
      · exact fair_same _ _
      · split
        · exact post_fair s m l
        · split
          · exact fair_same _ _
          · exact ask_fair s _ m l body
end Go.Proofs.YtdclmpdjjkjfjaaGreatDoor.Tu

/- Plain: how much a request about an upload can write into a log; what is dropped has room there. -/
namespace Go.Proofs.YtdclmpdjjkjfjaaGreatDoor.Tu
open Sr

theorem write_log (s : Sh) (r : Sp.St × Nat) (e : Jn.E) : (Sr.write s r e).1.log.length ≤ s.log.length + e.text.length + 20 := by
  unfold Sr.write
  split
  · show s.log.length ≤ _; omega
  · split
    · show s.log.length ≤ _; omega
    · rename_i hf
      split
      · show s.log.length ≤ _; omega
      · show (s.log ++ Jn.enc e).length ≤ _
        rw [List.length_append]
        have := Jn.enc_text (e := e) (by simpa using hf)
        omega
theorem create_log (s : Sh) (size : Int) (m : ByteArray) : (Sr.create s size m).1.log.length ≤ s.log.length + 120 := by
  by_cases h : m.size ≤ 100
  · have := write_log s (made s.h size m) ⟨1, s.h.last + 1, size, m.data.toList⟩
    have e : m.data.toList.length = m.size := by rw [Array.length_toList]; rfl
    simp only at this
    unfold Sr.create
    omega
  · have hc : (made s.h size m).2 ≠ 0 := by
      unfold made Sp.create
      split
      · simp
      · rw [if_pos (Or.inr (by omega))]; simp
    unfold Sr.create
    rw [write_code hc]
    show s.log.length ≤ _; omega
theorem post_log (s : Sh) (m : ByteArray) (l : List (ByteArray × ByteArray)) : (post s m l).1.log.length ≤ s.log.length + 120 := by
  unfold post
  repeat' split
  all_goals first
    | (show s.log.length ≤ _; omega)
    | exact create_log s _ _
theorem append_log (s : Sh) (id off : Int) (b : List UInt8) : (Sr.append s id off b).1.log.length ≤ s.log.length + b.length + 20 := write_log s _ _
theorem declare_log (s : Sh) (id n : Int) : (Sr.declare s id n).1.log.length ≤ s.log.length + 20 := by
  have := write_log s (Sp.declare s.h id n) ⟨3, id, n, []⟩
  simpa [Sr.declare] using this
theorem drop_log (s : Sh) (id : Int) : (Sr.drop s id).1.log.length ≤ s.log.length + 20 := by
  have := write_log s (Sp.drop s.h id) ⟨4, id, 0, []⟩
  simpa [Sr.drop] using this
theorem patch_log (s : Sh) (u : Sp.Up) (l : List (ByteArray × ByteArray)) (body : List UInt8) : (patch s u l body).1.log.length ≤ s.log.length + body.length + 120 := by
  have h1 := append_log s u.id u.bytes.length body
  have h2 := declare_log (Sr.append s u.id u.bytes.length body).1 u.id (numIn (one (vals nUL l))).1
  unfold patch
  split
  · show s.log.length ≤ _; omega
  split
  · show s.log.length ≤ _; omega
  split
  · show s.log.length ≤ _; omega
  split
  · show s.log.length ≤ _; omega
  split
  · show s.log.length ≤ _; omega
  split
  · show s.log.length ≤ _; omega
  split
  · show s.log.length ≤ _; omega
  split
  · show s.log.length ≤ _; omega
  · show (if tell u l then (Sr.declare (Sr.append s u.id u.bytes.length body).1 u.id (numIn (one (vals nUL l))).1).1 else (Sr.append s u.id u.bytes.length body).1).log.length ≤ _
    split
    · omega
    · omega
theorem ask_log (s : Sh) (u : Sp.Up) (m : ByteArray) (l : List (ByteArray × ByteArray)) (body : List UInt8) : (ask s u m l body).1.log.length ≤ s.log.length + body.length + 120 := by
  unfold ask
  split
  · show s.log.length ≤ _; omega
  · split
    · split
      · show s.log.length ≤ _; omega
      · show (Sr.drop s u.id).1.log.length ≤ _
        have := drop_log s u.id
        omega
    · split
      · exact patch_log s u l body
      · show s.log.length ≤ _; omega
/-- HOW MUCH A REQUEST WRITES -/
theorem tus_log (s : Sh) (m t : ByteArray) (l : List (ByteArray × ByteArray)) (body : List UInt8) : (tus s m t l body).1.log.length ≤ s.log.length + body.length + 120 := by
  unfold tus
  split
  · show s.log.length ≤ _; omega
  · split
    · show s.log.length ≤ _; omega
    · split
      · show s.log.length ≤ _; omega
      · split
        · have := post_log s m l; omega
        · split
          · show s.log.length ≤ _; omega
          · exact ask_log s _ m l body
/-- a reply has few fields -/
theorem said_few (st : Nat) (l : List (ByteArray × ByteArray)) (h : l.length ≤ 4) : (said st l).2.length ≤ 5 := by
  show (_ :: l).length ≤ 5
  simp only [List.length_cons]; omega
theorem post_few (s : Sh) (m : ByteArray) (l : List (ByteArray × ByteArray)) : (post s m l).2.2.length ≤ 5 := by
  unfold post
  repeat' split
  all_goals exact said_few _ _ (by simp)
theorem patch_few (s : Sh) (u : Sp.Up) (l : List (ByteArray × ByteArray)) (body : List UInt8) : (patch s u l body).2.2.length ≤ 5 := by
  unfold patch
  repeat' split
  all_goals exact said_few _ _ (by simp)
theorem head_few (u : Sp.Up) : (head u).2.length ≤ 5 := by
  unfold head
  refine said_few _ _ ?_
  simp only [List.length_cons]
  split
  · simp
  · simp
theorem ask_few (s : Sh) (u : Sp.Up) (m : ByteArray) (l : List (ByteArray × ByteArray)) (body : List UInt8) : (ask s u m l body).2.2.length ≤ 5 := by
  unfold ask
  split
  · exact head_few u
  · split
    · split
      · exact said_few _ _ (by simp)
      · exact said_few _ _ (by simp)
    · split
      · exact patch_few s u l body
      · exact said_few _ _ (by simp)
theorem tus_few (s : Sh) (m t : ByteArray) (l : List (ByteArray × ByteArray)) (body : List UInt8) : (tus s m t l body).2.2.length ≤ 5 := by
  unfold tus
  split
  · exact said_few _ _ (by simp)
  · split
    · exact said_few _ _ (by simp)
    · split
      · exact said_few _ _ (by simp)
      · split
        · exact post_few s m l
        · split
          · exact said_few _ _ (by simp)
          · exact ask_few s _ m l body
/-- an upload that there is can be dropped, if there is room for it -/
theorem drop_room {s : Sh} (ok : Sr.Ok s) {t : ByteArray} {u : Sp.Up} (hu : upAt s.h t = some u) (hl : s.log.length ≤ 99000) : (Sr.drop s u.id).2 = 0 := by
  obtain ⟨hm, n, i, hn, hp, hi, hid⟩ := upAt_mem hu
  subst hid
  have h1 := ok.h.all u hm
  have h2 := h1.low; have h3 := h1.high; have h4 := ok.last_
  have hf : Jn.fits ⟨4, u.id, 0, []⟩ = true := by
    rw [Jn.fits_iff]
    exact ⟨⟨by simp, by simp⟩, ⟨by show -1 ≤ u.id; omega, by show u.id ≤ _; omega⟩, ⟨by simp, by simp⟩, by simp⟩
  have he := Jn.enc_text hf
  simp only [List.length_nil] at he
  unfold Sr.drop
  rw [write_yes (by rw [Sp.drop_F, Sp.atUp_some hp]; rfl) hf (by omega)]
end Go.Proofs.YtdclmpdjjkjfjaaGreatDoor.Tu

/- Plain: a store's log is what was done, one entry behind the other; what a crash leaves of it. -/
namespace Go.Proofs.YtdclmpdjjkjfjaaGreatDoor.Sr

theorem append_len {s : Sp.St} {id off : Int} {b : List UInt8} (h : (Sp.append s id off b).2 = 0) : off = lenOf s id := by
  cases hp : Sp.place s.l id with
  | none => rw [Sp.append_F, Sp.atUp_none hp] at h; simp at h
  | some i =>
    rw [Sp.append_F, Sp.atUp_some hp] at h
    rw [lenOf_some hp]
    unfold Sp.appF at h
    split at h
    · simp at h
    · split at h
      · simp at h
      · rename_i h2; simpa using h2
/-- the entry of a step that was done says it -/
theorem played_entry {s : Sp.St} {x : X} (h : (doH s x).2 = 0) : played s (entry s x) = doH s x := by
  by_cases h0 : x.op = 0
  · simp only [doH, entry, if_pos h0, played, if_true]
    rw [ofL_data]
  by_cases h1 : x.op = 1
  · simp only [doH, if_neg h0, if_pos h1] at h
    have := append_len h
    simp only [doH, entry, if_neg h0, if_pos h1, played]
    rw [if_neg (by decide), if_pos trivial, ← this]
  by_cases h2 : x.op = 2
  · simp only [doH, entry, if_neg h0, if_neg h1, if_pos h2, played]
    rw [if_neg (by decide), if_neg (by decide), if_pos trivial]
  by_cases h3 : x.op = 3
  · simp only [doH, entry, if_neg h0, if_neg h1, if_neg h2, if_pos h3, played]
    rw [if_neg (by decide), if_neg (by decide), if_neg (by decide), if_pos trivial]
  by_cases h4 : x.op = 4
  · simp only [doH, entry, if_neg h0, if_neg h1, if_neg h2, if_neg h3, if_pos h4, played]
    rw [if_neg (by decide), if_neg (by decide), if_neg (by decide), if_neg (by decide), if_pos trivial]
  · simp only [doH, entry, if_neg h0, if_neg h1, if_neg h2, if_neg h3, if_neg h4, played]
    rw [if_neg (by decide), if_neg (by decide), if_neg (by decide), if_neg (by decide), if_neg (by decide)]
/-- an entry that was written when there were these uploads -/
def Was (h : Sp.St) (e : Jn.E) : Prop := ∃ x : X, 0 ≤ x.op ∧ x.op ≤ 5 ∧ e = entry h x ∧ (doH h x).2 = 0 ∧ Jn.fits e = true
/-- entries that were written one behind the other -/
def Runs (es : List Jn.E) : Prop := ∀ i (hi : i < es.length), Was (playAll Sp.new (es.take i)) es[i]
theorem Runs.nil : Runs [] := fun i hi => by simp at hi
theorem Runs.snoc {es : List Jn.E} {e : Jn.E} (h : Runs es) (he : Was (playAll Sp.new es) e) : Runs (es ++ [e]) := by
  intro i hi
  by_cases hl : i < es.length
  · rw [List.take_append_of_le_length (by omega), List.getElem_append_left hl]; exact h i hl
  · have : i = es.length := by simp at hi; omega
    subst this
    simp only [List.take_left', List.getElem_append_right (Nat.le_refl _), Nat.sub_self, List.getElem_cons_zero]
    exact he
theorem Runs.take {es : List Jn.E} (h : Runs es) (k : Nat) : Runs (es.take k) := by
  intro i hi
  rw [List.length_take] at hi
  rw [List.take_take, Nat.min_eq_left (by omega), List.getElem_take]
  exact h i (by omega)
theorem Runs.fits {es : List Jn.E} (h : Runs es) : ∀ e ∈ es, Jn.fits e = true := fun e he => by
  obtain ⟨i, hi, rfl⟩ := List.getElem_of_mem he
  obtain ⟨x, _, _, _, _, h5⟩ := h i hi
  exact h5
/-- a store's log, and its uploads: m: so many entries are made sure of -/
structure Hist (s : Sh) (es : List Jn.E) (m : Nat) : Prop where
  log : s.log = Jn.all es
  runs : Runs es
  now : s.h = playAll Sp.new es
  le : m ≤ es.length
  sure : s.sure = (Jn.all (es.take m)).length
theorem Hist.new : Hist new [] 0 := ⟨rfl, Runs.nil, rfl, Nat.le_refl _, rfl⟩
theorem all_take_le (es : List Jn.E) (j : Nat) : (Jn.all (es.take j)).length ≤ (Jn.all es).length := by
  conv => rhs; rw [← List.take_append_drop j es, Jn.all_append, List.length_append]
  omega
theorem all_take (es : List Jn.E) (j : Nat) : (Jn.all es).take (Jn.all (es.take j)).length = Jn.all (es.take j) := by
  conv => lhs; rw [← List.take_append_drop j es, Jn.all_append]
  rw [List.take_append_drop, List.take_left']
  rfl
theorem whole_mono : ∀ (l : List Jn.E) (k k' : Nat), k ≤ k' → Jn.whole l k ≤ Jn.whole l k'
  | [], _, _, _ => Nat.le_refl _
  | e :: t, k, k', h => by
    unfold Jn.whole
    split
    · rw [if_pos (by omega)]
      have := whole_mono t (k - (Jn.enc e).length) (k' - (Jn.enc e).length) (by omega)
      omega
    · omega
theorem whole_of {es : List Jn.E} {m k : Nat} (hm : m ≤ es.length) (h : (Jn.all (es.take m)).length ≤ k) : m ≤ Jn.whole es k := by
  cases m with
  | zero => exact Nat.zero_le _
  | succ m => exact (Jn.endAt_whole es k m (by omega)).1 h
/-- what a crash leaves -/
theorem Hist.crash {s : Sh} {es : List Jn.E} {m : Nat} (h : Hist s es m) (keep : Int) : Hist (crash s keep) (es.take (Jn.whole es (left s keep))) (Jn.whole es (left s keep)) ∧ m ≤ Jn.whole es (left s keep) ∧ Jn.whole es (left s keep) ≤ es.length := by
  have hd := Jn.dec_cut es (left s keep) h.runs.fits
  have hj := Jn.whole_le es (left s keep)
  refine ⟨⟨?_, h.runs.take _, ?_, ?_, ?_⟩, ?_, hj⟩
  · simp only [Sr.crash]
    rw [h.log, hd]
    exact all_take es _
  · simp only [Sr.crash]
    rw [h.log, hd]
  · rw [List.length_take]; omega
  · simp only [Sr.crash]
    rw [h.log, hd, List.take_take, Nat.min_self]
  · refine whole_of h.le ?_
    unfold left
    rw [h.sure]; omega
theorem Hist.sync {s : Sh} {es : List Jn.E} {m : Nat} (h : Hist s es m) : Hist (sync s) es es.length := ⟨h.log, h.runs, h.now, Nat.le_refl _, by simp only [Sr.sync]; rw [List.take_length, h.log]⟩
/-- a step of the six: all is as it was, or its entry stands behind all -/
theorem step_six {s : Sh} {x : X} (h0 : 0 ≤ x.op) (h5 : x.op ≤ 5) : step s x = write s (doH s.h x) (entry s.h x) := by
  unfold step doH entry
  by_cases e0 : x.op = 0
  · simp only [if_pos e0]; rfl
  by_cases e1 : x.op = 1
  · simp only [if_neg e0, if_pos e1]; rfl
  by_cases e2 : x.op = 2
  · simp only [if_neg e0, if_neg e1, if_pos e2]; rfl
  by_cases e3 : x.op = 3
  · simp only [if_neg e0, if_neg e1, if_neg e2, if_pos e3]; rfl
  by_cases e4 : x.op = 4
  · simp only [if_neg e0, if_neg e1, if_neg e2, if_neg e3, if_pos e4]; rfl
  · have e5 : x.op = 5 := by omega
    simp only [if_neg e0, if_neg e1, if_neg e2, if_neg e3, if_neg e4, if_pos e5]; rfl
theorem Hist.six {s : Sh} {es : List Jn.E} {m : Nat} (h : Hist s es m) {x : X} (h0 : 0 ≤ x.op) (h5 : x.op ≤ 5) : ((step s x).1 = s) ∨ ∃ e, Hist (step s x).1 (es ++ [e]) m := by
  rw [step_six h0 h5]
  by_cases hc : (doH s.h x).2 = 0
  · cases hf : Jn.fits (entry s.h x) with
    | false => rw [write_bad hc hf]; exact Or.inl rfl
    | true =>
      by_cases hl : 100000 < s.log.length + (Jn.enc (entry s.h x)).length
      · rw [write_full hc hf hl]; exact Or.inl rfl
      · rw [write_yes hc hf hl]
        refine Or.inr ⟨entry s.h x, ⟨?_, ?_, ?_, ?_, ?_⟩⟩
        · simp only; rw [h.log, Jn.all_append]; simp [Jn.all]
        · refine h.runs.snoc ⟨x, h0, h5, by rw [← h.now], by rw [← h.now]; exact hc, hf⟩
        · simp only; rw [playAll_snoc, ← h.now, played_entry hc]
        · have := h.le; simp; omega
        · simp only; rw [List.take_append_of_le_length h.le]; exact h.sure
  · rw [write_code hc]; exact Or.inl rfl
/-- what a step leaves, whatever it is: the same, one entry more, all made sure of, or what a crash left -/
theorem Hist.step {s : Sh} {es : List Jn.E} {m : Nat} (h : Hist s es m) (x : X) : (x.op ≠ 6 ∧ x.op ≠ 7 ∧ ((Sr.step s x).1 = s ∨ ∃ e, Hist (Sr.step s x).1 (es ++ [e]) m)) ∨ ((x.op = 6 ∨ x.op = 7) ∧ ∃ es', Hist (Sr.step s x).1 es' es'.length) := by
  by_cases hx : 0 ≤ x.op ∧ x.op ≤ 5
  · exact Or.inl ⟨by omega, by omega, h.six hx.1 hx.2⟩
  · have n0 : ¬ x.op = 0 := by omega
    have n1 : ¬ x.op = 1 := by omega
    have n2 : ¬ x.op = 2 := by omega
    have n3 : ¬ x.op = 3 := by omega
    have n4 : ¬ x.op = 4 := by omega
    have n5 : ¬ x.op = 5 := by omega
    unfold Sr.step
    simp only [if_neg n0, if_neg n1, if_neg n2, if_neg n3, if_neg n4, if_neg n5]
    by_cases h6 : x.op = 6
    · rw [if_pos h6]; exact Or.inr ⟨Or.inl h6, es, h.sync⟩
    · by_cases h7 : x.op = 7
      · rw [if_neg h6, if_pos h7]
        obtain ⟨a, _, c⟩ := h.crash x.n
        refine Or.inr ⟨Or.inr h7, es.take (Jn.whole es (left s x.n)), ?_⟩
        have : (es.take (Jn.whole es (left s x.n))).length = Jn.whole es (left s x.n) := by rw [List.length_take]; omega
        rw [this]; exact a
      · rw [if_neg h6, if_neg h7]
        exact Or.inl ⟨h6, h7, Or.inl rfl⟩
end Go.Proofs.YtdclmpdjjkjfjaaGreatDoor.Sr

/- Plain: what is told of an upload is so: bytes that came, and what a crash leaves. -/
namespace Go.Proofs.YtdclmpdjjkjfjaaGreatDoor.Tu
open Sr

/-! ### all that was done is made sure of -/
theorem hist_step {s : Sh} {es : List Jn.E} {m : Nat} (h : Hist s es m) {x : X} (h0 : 0 ≤ x.op) (h5 : x.op ≤ 5) : ∃ es', Hist (Sr.step s x).1 es' m := by
  rcases h.six h0 h5 with e | ⟨e, he⟩
  · rw [e]; exact ⟨es, h⟩
  · exact ⟨_, he⟩
theorem hist_create {s : Sh} {es : List Jn.E} {m : Nat} (h : Hist s es m) (size : Int) (t : ByteArray) : ∃ es', Hist (Sr.create s size t).1 es' m := by
  have := hist_step h (x := ⟨0, 0, size, t⟩) (by simp) (by simp)
  unfold Sr.step at this; rw [if_pos rfl] at this; exact this
theorem hist_append {s : Sh} {es : List Jn.E} {m : Nat} (h : Hist s es m) (id off : Int) (b : List UInt8) : ∃ es', Hist (Sr.append s id off b).1 es' m := by
  have := hist_step h (x := ⟨1, id, off, ofL b⟩) (by simp) (by simp)
  unfold Sr.step at this; rw [if_neg (by simp), if_pos rfl, ofL_list] at this; exact this
theorem hist_declare {s : Sh} {es : List Jn.E} {m : Nat} (h : Hist s es m) (id sz : Int) : ∃ es', Hist (Sr.declare s id sz).1 es' m := by
  have := hist_step h (x := ⟨2, id, sz, ⟨#[]⟩⟩) (by simp) (by simp)
  unfold Sr.step at this; rw [if_neg (by simp), if_neg (by simp), if_pos rfl] at this; exact this
theorem hist_drop {s : Sh} {es : List Jn.E} {m : Nat} (h : Hist s es m) (id : Int) : ∃ es', Hist (Sr.drop s id).1 es' m := by
  have := hist_step h (x := ⟨3, id, 0, ⟨#[]⟩⟩) (by simp) (by simp)
  unfold Sr.step at this; rw [if_neg (by simp), if_neg (by simp), if_neg (by simp), if_pos rfl] at this; exact this
/-- a store of which all is made sure of -/
def Sure (s : Sh) : Prop := ∃ es, Hist s es es.length
theorem Sure.new : Sure Sr.new := ⟨[], Hist.new⟩
theorem sure_sync {s : Sh} {es : List Jn.E} {m : Nat} (h : Hist s es m) : Sure (Sr.sync s) := ⟨es, h.sync⟩
theorem post_sure {s : Sh} (h : Sure s) (m : ByteArray) (l : List (ByteArray × ByteArray)) : Sure (post s m l).1 := by
  obtain ⟨es, hs⟩ := h
  unfold post
  repeat' split
  all_goals first
    | exact ⟨es, hs⟩
    | exact sure_sync (hist_create hs _ _).choose_spec
theorem patch_sure {s : Sh} (h : Sure s) (u : Sp.Up) (l : List (ByteArray × ByteArray)) (body : List UInt8) : Sure (patch s u l body).1 := by
  obtain ⟨es, hs⟩ := h
  unfold patch
  repeat' split
  all_goals first
    | exact ⟨es, hs⟩
    | exact sure_sync (hist_declare (hist_append hs _ _ _).choose_spec _ _).choose_spec
    | exact sure_sync (hist_append hs _ _ _).choose_spec
theorem ask_sure {s : Sh} (h : Sure s) (u : Sp.Up) (m : ByteArray) (l : List (ByteArray × ByteArray)) (body : List UInt8) : Sure (ask s u m l body).1 := by
  have h' := h
  obtain ⟨es, hs⟩ := h
  unfold ask
  repeat' split
  all_goals first
    | exact ⟨es, hs⟩
    | exact sure_sync (hist_drop hs _).choose_spec
    | exact patch_sure h' u l body
theorem tus_sure {s : Sh} (h : Sure s) (m t : ByteArray) (l : List (ByteArray × ByteArray)) (body : List UInt8) : Sure (tus s m t l body).1 := by
  unfold tus
  split
  · exact h
  · split
    · exact h
    · split
      · exact h
      · split
        · exact post_sure h m l
        · split
          · exact h
          · exact ask_sure h _ m l body
/-- a crash leaves all of it -/
theorem Sure.crash {s : Sh} (h : Sure s) (keep : Int) : (crash s keep).h = s.h := by
  obtain ⟨es, hs⟩ := h
  obtain ⟨h1, h2, h3⟩ := hs.crash keep
  have e : Jn.whole es (left s keep) = es.length := by omega
  rw [h1.now, hs.now, e, List.take_length]

/-! ### what is told -/
theorem write_done {s : Sh} {r : Sp.St × Nat} {e : Jn.E} (h : (Sr.write s r e).2 = 0) : r.2 = 0 ∧ (Sr.write s r e).1.h = r.1 := by
  unfold Sr.write at h ⊢
  split
  · rename_i h1; rw [if_pos h1] at h; exact absurd h h1
  · rename_i h1
    rw [if_neg h1] at h
    split
    · rename_i h2; rw [if_pos h2] at h; cases h
    · rename_i h2
      rw [if_neg h2] at h
      split
      · rename_i h3; rw [if_pos h3] at h; cases h
      · exact ⟨by simpa using h1, rfl⟩
theorem numT_eq {t : ByteArray} {n : Int} (h : numT t = some n) : 7 < t.size ∧ t.data.toList.take 7 = bFilesS.data.toList ∧ Ch.number 10 9 (t.data.toList.drop 7) = (n, true) := by
  unfold numT at h
  split at h
  · rename_i hc
    injection h with h
    exact ⟨hc.1, hc.2.1, Prod.ext h hc.2.2.1⟩
  · cases h
theorem ids_one {l : List Sp.Up} (hr : (l.map (·.id)).Pairwise (· < ·)) {i j : Nat} (hi : i < l.length) (hj : j < l.length) (h : l[i].id = l[j].id) : i = j := by
  rcases Nat.lt_trichotomy i j with e | e | e
  · have := List.pairwise_iff_getElem.1 hr i j (by simpa using hi) (by simpa using hj) e
    simp only [List.getElem_map] at this; omega
  · exact e
  · have := List.pairwise_iff_getElem.1 hr j i (by simpa using hj) (by simpa using hi) e
    simp only [List.getElem_map] at this; omega
/-- the uploads have no bytes that they had not -/
def Kept (s s' : Sp.St) : Prop := ∀ u' ∈ s'.l, ∃ u ∈ s.l, u.id = u'.id ∧ u.bytes = u'.bytes
theorem Kept.refl (s : Sp.St) : Kept s s := fun u h => ⟨u, h, rfl, rfl⟩
theorem declare_kept (s : Sh) (id sz : Int) : Kept s.h (Sr.declare s id sz).1.h := by
  by_cases h0 : (Sr.declare s id sz).2 = 0
  · unfold Sr.declare at h0 ⊢
    obtain ⟨h1, h2⟩ := write_done h0
    rw [h2]
    cases hp : Sp.place s.h.l id with
    | none => rw [Sp.declare_F, Sp.atUp_none hp] at h1; cases h1
    | some i =>
      rw [Sp.declare_F, Sp.atUp_some hp] at h1 ⊢
      unfold Sp.decF at h1 ⊢
      split
      · exact Kept.refl _
      · split
        · exact Kept.refl _
        · split
          · exact Kept.refl _
          · intro u' hu'
            rcases List.mem_or_eq_of_mem_set hu' with h | h
            · exact ⟨u', h, rfl, rfl⟩
            · subst h; exact ⟨s.h.l[i]'(Sp.place_lt hp), List.getElem_mem _, rfl, rfl⟩
  · unfold Sr.declare at h0 ⊢
    rw [write_same h0]; exact Kept.refl _
theorem drop_kept (s : Sh) (id : Int) : Kept s.h (Sr.drop s id).1.h := by
  by_cases h0 : (Sr.drop s id).2 = 0
  · unfold Sr.drop at h0 ⊢
    obtain ⟨h1, h2⟩ := write_done h0
    rw [h2]
    cases hp : Sp.place s.h.l id with
    | none => rw [Sp.drop_F, Sp.atUp_none hp] at h1; cases h1
    | some i =>
      rw [Sp.drop_F, Sp.atUp_some hp]
      intro u' hu'
      exact ⟨u', List.mem_of_mem_eraseIdx hu', rfl, rfl⟩
  · unfold Sr.drop at h0 ⊢
    rw [write_same h0]; exact Kept.refl _
/-- an upload has grown by these bytes, the others are as they were -/
def Grew (s s' : Sp.St) (u : Sp.Up) (body : List UInt8) : Prop := ∀ u' ∈ s'.l, (u'.id = u.id ∧ u'.bytes = u.bytes ++ body) ∨ (u'.id ≠ u.id ∧ ∃ x ∈ s.l, x.id = u'.id ∧ x.bytes = u'.bytes)
theorem append_grew {s : Sh} (ok : Sr.Ok s) {u : Sp.Up} {i : Nat} (hp : Sp.place s.h.l u.id = some i) (hi : s.h.l[i]? = some u) {off : Int} {body : List UInt8} (h0 : (Sr.append s u.id off body).2 = 0) : Grew s.h (Sr.append s u.id off body).1.h u body := by
  unfold Sr.append at h0 ⊢
  obtain ⟨h1, h2⟩ := write_done h0
  rw [h2]
  have hlt := Sp.place_lt hp
  have hiu : s.h.l[i] = u := by rw [List.getElem?_eq_getElem hlt] at hi; injection hi
  rw [Sp.append_F, Sp.atUp_some hp] at h1 ⊢
  unfold Sp.appF at h1 ⊢
  split
  · rename_i h; rw [if_pos h] at h1; cases h1
  · rename_i ha
    rw [if_neg ha] at h1
    split
    · rename_i h; rw [if_pos h] at h1; cases h1
    · rename_i hb
      rw [if_neg hb] at h1
      split
      · rename_i h; rw [if_pos h] at h1; cases h1
      · rename_i hc
        rw [if_neg hc] at h1
        split
        · rename_i h; rw [if_pos h] at h1; cases h1
        · intro u' hu'
          obtain ⟨j, hj, rfl⟩ := List.getElem_of_mem hu'
          have hjl : j < s.h.l.length := by simpa using hj
          simp only [List.getElem_set]
          split
          · left
            exact ⟨by simp only [hiu], by simp only [hiu]⟩
          · rename_i hne
            right
            refine ⟨fun e => hne ?_, s.h.l[j], List.getElem_mem hjl, rfl, rfl⟩
            refine ids_one ok.h.rise hlt hjl ?_
            rw [hiu]; exact e.symm
theorem grew_kept {s s1 s2 : Sp.St} {u : Sp.Up} {body : List UInt8} (h : Grew s s1 u body) (hk : Kept s1 s2) : Grew s s2 u body := fun u' hu' => by
  obtain ⟨x, hx, e1, e2⟩ := hk u' hu'
  rcases h x hx with ⟨a, b⟩ | ⟨a, y, hy, b, c⟩
  · exact Or.inl ⟨by rw [← e1]; exact a, by rw [← e2]; exact b⟩
  · exact Or.inr ⟨by rw [← e1]; exact a, y, hy, by rw [b, e1], by rw [c, e2]⟩
theorem last_write {s : Sh} {r : Sp.St × Nat} {e : Jn.E} (h : r.1.last = s.h.last) : (Sr.write s r e).1.h.last = s.h.last := by
  unfold Sr.write
  repeat' split
  all_goals first
    | rfl
    | exact h
/-- what a reply tells, and what became of the store -/
inductive Tell (s : Sh) (t : ByteArray) (body : List UInt8) (r : Sh × Rep) : Prop
  | none_ (hf : one (vals nUO r.2.2) = ([], 10)) (hk : Kept s.h r.1.h) (hl : r.1.h.last = s.h.last)
  | made (hst : r.2.1 = 201) (hk : ∀ u' ∈ r.1.h.l, (∃ u ∈ s.h.l, u.id = u'.id ∧ u.bytes = u'.bytes) ∨ (u'.id = s.h.last + 1 ∧ u'.bytes = [])) (hl : r.1.h.last = s.h.last + 1)
  | told (u : Sp.Up) (hu : u ∈ s.h.l) (hn : numT t = some u.id) (hs : r.1 = s) (hst : r.2.1 = 200) (hf : one (vals nUO r.2.2) = (Ch.decF 8 u.bytes.length, 0))
  | grew (u : Sp.Up) (hu : u ∈ s.h.l) (hn : numT t = some u.id) (hst : r.2.1 = 204) (hf : one (vals nUO r.2.2) = (Ch.decF 8 (u.bytes.length + body.length), 0)) (hk : Grew s.h r.1.h u body) (hl : r.1.h.last = s.h.last)
theorem vals_cons (n : ByteArray) (p : ByteArray × ByteArray) (l : List (ByteArray × ByteArray)) : vals n (p :: l) = if Ch.lower p.1.data.toList = Ch.lower n.data.toList then p.2 :: vals n l else vals n l := by
  unfold vals
  rw [List.filter_cons]
  by_cases h : Ch.lower p.1.data.toList = Ch.lower n.data.toList
  · simp [h]
  · simp [h]
theorem vals_nil (n : ByteArray) : vals n [] = [] := rfl
theorem not_TR : ¬ Ch.lower fTR.data.toList = Ch.lower nUO.data.toList := by decide +kernel
theorem is_UO : Ch.lower fUO.data.toList = Ch.lower nUO.data.toList := by decide +kernel
theorem not_UD : ¬ Ch.lower fUD.data.toList = Ch.lower nUO.data.toList := by decide +kernel
theorem not_UL : ¬ Ch.lower fUL.data.toList = Ch.lower nUO.data.toList := by decide +kernel
theorem not_UM : ¬ Ch.lower fUM.data.toList = Ch.lower nUO.data.toList := by decide +kernel
theorem said_none (st : Nat) : one (vals nUO (said st []).2) = ([], 10) := by
  show one (vals nUO [(fTR, v100)]) = _
  decide +kernel
theorem tell_same {s : Sh} {t : ByteArray} {body : List UInt8} (st : Nat) : Tell s t body (s, said st []) := .none_ (said_none st) (Kept.refl _) rfl
theorem off_said (st : Nat) (v : ByteArray) (l : List (ByteArray × ByteArray)) (h : vals nUO l = []) : one (vals nUO (said st ((fUO, v) :: l)).2) = (v.data.toList, 0) := by
  unfold said
  rw [vals_cons, if_neg not_TR, vals_cons, if_pos is_UO, h]
  rfl
theorem create_made (s : Sh) (size : Int) (m : ByteArray) (h0 : (Sr.create s size m).2 = 0) : (∀ u' ∈ (Sr.create s size m).1.h.l, (∃ u ∈ s.h.l, u.id = u'.id ∧ u.bytes = u'.bytes) ∨ (u'.id = s.h.last + 1 ∧ u'.bytes = [])) ∧ (Sr.create s size m).1.h.last = s.h.last + 1 := by
  unfold Sr.create at h0 ⊢
  obtain ⟨h1, h2⟩ := write_done h0
  rw [h2]
  unfold Sr.made Sp.create at h1 ⊢
  split
  · rename_i h; rw [if_pos h] at h1; cases h1
  · rename_i ha
    rw [if_neg ha] at h1
    split
    · rename_i h; rw [if_pos h] at h1; cases h1
    · rename_i hb
      rw [if_neg hb] at h1
      split
      · rename_i h; rw [if_pos h] at h1; cases h1
      · rename_i hc
        rw [if_neg hc] at h1
        split
        · rename_i h; rw [if_pos h] at h1; cases h1
        · refine ⟨fun u' hu' => ?_, rfl⟩
          rcases List.mem_append.1 hu' with h | h
          · exact Or.inl ⟨u', h, rfl, rfl⟩
          · rw [List.mem_singleton.1 h]; exact Or.inr ⟨rfl, rfl⟩
theorem post_tell (s : Sh) (t : ByteArray) (body : List UInt8) (m : ByteArray) (l : List (ByteArray × ByteArray)) : Tell s t body (post s m l) := by
  unfold post
  split
  · exact tell_same _
  · split
    · exact tell_same _
    · split
      · exact tell_same _
      · split
        · exact tell_same _
        · split
          · exact tell_same _
          · rename_i h
            obtain ⟨h1, h2⟩ := create_made s _ _ (by simpa using h)
            exact .made rfl h1 h2
theorem patch_tell {s : Sh} (ok : Sr.Ok s) {t : ByteArray} {u : Sp.Up} (hu : upAt s.h t = some u) (l : List (ByteArray × ByteArray)) (body : List UInt8) : Tell s t body (patch s u l body) := by
  obtain ⟨hm, n, i, hn, hp, hi, hid⟩ := upAt_mem hu
  subst hid
  unfold patch
  split
  · exact tell_same _
  split
  · exact tell_same _
  split
  · exact tell_same _
  split
  · exact tell_same _
  split
  · exact tell_same _
  split
  · exact tell_same _
  split
  · exact tell_same _
  split
  · exact tell_same _
  rename_i h
  have hg := append_grew ok hp hi (by simpa using h : (Sr.append s u.id u.bytes.length body).2 = 0)
  have hl : (Sr.append s u.id u.bytes.length body).1.h.last = s.h.last := last_write (Sp.last_append ..)
  refine .grew u hm hn rfl (off_said _ _ [] rfl) ?_ ?_
  · show Grew s.h (Sr.sync _).h u body
    split
    · exact grew_kept hg (declare_kept _ _ _)
    · exact hg
  · show (Sr.sync _).h.last = s.h.last
    split
    · exact (last_write (Sp.last_declare ..)).trans hl
    · exact hl
theorem head_vals (u : Sp.Up) : vals nUO ((if u.size < 0 then (fUD, vOne) else (fUL, dec u.size.toNat)) :: (fCC, vNS) :: (if u.note.size = 0 then [] else [(fUM, u.note)])) = [] := by
  rw [vals_cons, vals_cons]
  rw [if_neg (by split; exact not_UD; exact not_UL), if_neg (by decide +kernel)]
  split
  · rfl
  · rw [vals_cons, if_neg not_UM]; rfl
theorem ask_tell {s : Sh} (ok : Sr.Ok s) {t : ByteArray} {u : Sp.Up} (hu : upAt s.h t = some u) (m : ByteArray) (l : List (ByteArray × ByteArray)) (body : List UInt8) : Tell s t body (ask s u m l body) := by
  obtain ⟨hm, n, i, hn, hp, hi, hid⟩ := upAt_mem hu
  have hn' : numT t = some u.id := by rw [hid]; exact hn
  unfold ask
  split
  · exact .told u hm hn' rfl rfl (off_said _ _ _ (head_vals u))
  · split
    · split
      · exact tell_same _
      · exact .none_ (said_none _) (drop_kept s u.id) (last_write (Sp.last_drop ..))
    · split
      · exact patch_tell ok hu l body
      · exact tell_same _
theorem tus_tell {s : Sh} (ok : Sr.Ok s) (m t : ByteArray) (l : List (ByteArray × ByteArray)) (body : List UInt8) : Tell s t body (tus s m t l body) := by
  unfold tus
  split
  · exact .none_ (by show one (vals nUO [(fTR, v100), (fTV, v100), (fTX, v2000), (fTE, vTE)]) = _; decide +kernel) (Kept.refl _) rfl
  · split
    · exact tell_same _
    · split
      · exact .none_ (by show one (vals nUO [(fTR, v100), (fTV, v100)]) = _; decide +kernel) (Kept.refl _) rfl
      · split
        · exact post_tell s t body m l
        · split
          · exact tell_same _
          · rename_i u hu
            exact ask_tell ok hu m l body
end Go.Proofs.YtdclmpdjjkjfjaaGreatDoor.Tu

/- Plain: what came in for each upload, as a law gathers it beside a store. -/
namespace Go.Proofs.YtdclmpdjjkjfjaaGreatDoor.Tu
open Sr

/-- the number behind a stroke and six bytes more -/
def numL (t : ByteArray) : Int × Bool := if 7 < t.size ∧ t.data.toList.take 1 = [47] then Ch.number 10 9 (t.data.toList.drop 7) else (0, false)
theorem numT_L {t : ByteArray} {n : Int} (h : numT t = some n) : numL t = (n, true) := by
  obtain ⟨h1, h2, h3⟩ := numT_eq h
  unfold numL
  have h4 : t.data.toList.take 1 = [47] := by
    have := congrArg (List.take 1) h2
    rw [List.take_take] at this
    exact this
  rw [if_pos ⟨h1, h4⟩, h3]
/-- what came in, of each number, beside a store that was asked k times -/
structure Came (N k : Nat) (s : Sh) (cm : List (List UInt8)) : Prop where
  ok : Sr.Ok s
  sure : Sure s
  len : cm.length = N
  last : s.h.last ≤ k
  has : ∀ u ∈ s.h.l, cm[u.id.toNat]? = some u.bytes
  none_ : ∀ j : Nat, s.h.last < j → j < N → cm[j]? = some []
theorem Came.new (N : Nat) : Came N 0 Sr.new (List.replicate N []) :=
  ⟨Ok.new, Sure.new, by simp, by simp [Sr.new, Sp.new], fun u hu => by simp [Sr.new, Sp.new] at hu, fun j _ hj => by simp [hj]⟩
theorem Came.id_lt {N k : Nat} {s : Sh} {cm : List (List UInt8)} (h : Came N k s cm) {u : Sp.Up} (hu : u ∈ s.h.l) : 1 ≤ u.id ∧ u.id ≤ k := by
  have h1 := h.ok.h.all u hu
  have := h1.low; have := h1.high; have := h.last
  omega
theorem Came.kept {N k : Nat} {s s' : Sh} {cm : List (List UInt8)} (h : Came N k s cm) (ok : Sr.Ok s') (su : Sure s') (hk : Kept s.h s'.h) (hl : s'.h.last = s.h.last) : Came N (k + 1) s' cm :=
  ⟨ok, su, h.len, by have := h.last; omega, fun u' hu' => by
    obtain ⟨u, hu, e1, e2⟩ := hk u' hu'
    rw [← e1, ← e2]; exact h.has u hu, fun j h1 h2 => h.none_ j (by omega) h2⟩
theorem Came.made {N k : Nat} {s s' : Sh} {cm : List (List UInt8)} (h : Came N k s cm) (ok : Sr.Ok s') (su : Sure s') (hk : ∀ u' ∈ s'.h.l, (∃ u ∈ s.h.l, u.id = u'.id ∧ u.bytes = u'.bytes) ∨ (u'.id = s.h.last + 1 ∧ u'.bytes = [])) (hl : s'.h.last = s.h.last + 1) (hN : k + 1 < N) : Came N (k + 1) s' cm := by
  have h0 := h.ok.h.last0
  have h1 := h.last
  refine ⟨ok, su, h.len, by omega, fun u' hu' => ?_, fun j h2 h3 => h.none_ j (by omega) h3⟩
  rcases hk u' hu' with ⟨u, hu, e1, e2⟩ | ⟨e1, e2⟩
  · rw [← e1, ← e2]; exact h.has u hu
  · rw [e1, e2]; exact h.none_ _ (by omega) (by omega)
theorem Came.grew {N k : Nat} {s s' : Sh} {cm : List (List UInt8)} (h : Came N k s cm) (ok : Sr.Ok s') (su : Sure s') {u : Sp.Up} (hu : u ∈ s.h.l) {body : List UInt8} (hk : Grew s.h s'.h u body) (hl : s'.h.last = s.h.last) : Came N (k + 1) s' (cm.set u.id.toNat (u.bytes ++ body)) := by
  obtain ⟨i1, i2⟩ := h.id_lt hu
  have hb := h.has u hu
  have hlt := (List.getElem?_eq_some_iff.1 hb).1
  refine ⟨ok, su, by rw [List.length_set]; exact h.len, by have := h.last; omega, fun u' hu' => ?_, fun j h1 h2 => ?_⟩
  · rcases hk u' hu' with ⟨e1, e2⟩ | ⟨e1, x, hx, e2, e3⟩
    · rw [e1, e2, List.getElem?_set_self hlt]
    · obtain ⟨x1, _⟩ := h.id_lt hx
      rw [List.getElem?_set_ne (by omega), ← e2, ← e3]
      exact h.has x hx
  · have := (h.ok.h.all u hu).high
    rw [List.getElem?_set_ne (by omega)]
    exact h.none_ j (by omega) h2
/-- what a law gathers of a reply -/
def next (N : Nat) (cm : List (List UInt8)) (t : ByteArray) (body : List UInt8) (r : Rep) : List (List UInt8) :=
  if r.1 = 201 then cm else if (numL t).2 = false ∨ N ≤ (numL t).1 then cm
  else if r.1 = 204 ∧ (one (vals nUO r.2)).2 = 0 then cm.set (numL t).1.toNat ((cm[(numL t).1.toNat]?.getD []) ++ body) else cm
/-- .. and what it asks of it -/
def right (N : Nat) (cm : List (List UInt8)) (t : ByteArray) (r : Rep) : Prop :=
  r.1 = 201 ∨ (numL t).2 = false ∨ N ≤ (numL t).1 ∨ (one (vals nUO r.2)).2 ≠ 0 ∨ ((one (vals nUO r.2)).1 = Ch.decF 8 (cm[(numL t).1.toNat]?.getD []).length ∧ r.1 < 400)
theorem Came.step {N k : Nat} {s : Sh} {cm : List (List UInt8)} (h : Came N k s cm) (m t : ByteArray) (l : List (ByteArray × ByteArray)) (body : List UInt8) (hN : k + 1 < N) :
    Came N (k + 1) (tus s m t l body).1 (next N cm t body (tus s m t l body).2) ∧ right N (next N cm t body (tus s m t l body).2) t (tus s m t l body).2 := by
  have ok' := tus_ok h.ok m t l body
  have su' := tus_sure h.sure m t l body
  have ht := tus_tell h.ok m t l body
  generalize tus s m t l body = r at *
  cases ht with
  | none_ hf hk hl =>
    have e : next N cm t body r.2 = cm := by
      unfold next
      rw [hf]
      split
      · rfl
      · split
        · rfl
        · rw [if_neg (by simp)]
    rw [e]
    exact ⟨h.kept ok' su' hk hl, Or.inr (Or.inr (Or.inr (Or.inl (by rw [hf]; simp))))⟩
  | made hst hk hl =>
    have e : next N cm t body r.2 = cm := by unfold next; rw [if_pos hst]
    rw [e]
    exact ⟨h.made ok' su' hk hl hN, Or.inl hst⟩
  | told u hu hn hs hst hf =>
    have hL := numT_L hn
    obtain ⟨i1, i2⟩ := h.id_lt hu
    have e : next N cm t body r.2 = cm := by
      unfold next
      split
      · rfl
      · split
        · rfl
        · rw [if_neg (by rw [hst]; simp)]
    rw [e, hs]
    refine ⟨h.kept h.ok h.sure (Kept.refl _) rfl, Or.inr (Or.inr (Or.inr (Or.inr ?_)))⟩
    rw [hf, hL, h.has u hu, hst]
    exact ⟨rfl, by decide⟩
  | grew u hu hn hst hf hk hl =>
    have hL := numT_L hn
    obtain ⟨i1, i2⟩ := h.id_lt hu
    have hb := h.has u hu
    have hlt := (List.getElem?_eq_some_iff.1 hb).1
    have e : next N cm t body r.2 = cm.set u.id.toNat (u.bytes ++ body) := by
      unfold next
      rw [hL, hf, hst, if_neg (by decide), if_neg (by simp; omega), if_pos ⟨rfl, rfl⟩, hb]
      rfl
    rw [e]
    refine ⟨h.grew ok' su' hu hk hl, Or.inr (Or.inr (Or.inr (Or.inr ?_)))⟩
    rw [hf, hL, hst, List.getElem?_set_self hlt]
    exact ⟨by simp, by decide⟩
/-- behind a crash, too: the bytes are what came in -/
theorem Came.ends {N k : Nat} {s : Sh} {cm : List (List UInt8)} (h : Came N k s cm) (hN : k < N) (keep : Int) : ∀ u ∈ (crash s keep).h.l, 0 ≤ u.id ∧ u.id < N ∧ cm[u.id.toNat]? = some u.bytes := by
  rw [h.sure.crash keep]
  intro u hu
  obtain ⟨i1, i2⟩ := h.id_lt hu
  exact ⟨by omega, by omega, h.has u hu⟩
end Go.Proofs.YtdclmpdjjkjfjaaGreatDoor.Tu

/- Plain: a reply's fields have short names. -/
namespace Go.Proofs.YtdclmpdjjkjfjaaGreatDoor.Tu
open Sr

/-- a reply's fields have short names -/
def Short (r : Rep) : Prop := ∀ p ∈ r.2, p.1.size ≤ 2000
theorem said_names (st : Nat) (l : List (ByteArray × ByteArray)) (h : ∀ p ∈ l, p.1.size ≤ 2000) : Short (said st l) := fun p hp => by
  rcases List.mem_cons.1 hp with e | e
  · subst e; decide
  · exact h p e
theorem none_names : ∀ p ∈ ([] : List (ByteArray × ByteArray)), p.1.size ≤ 2000 := fun p hp => by cases hp
theorem one_names {a : ByteArray} (b : ByteArray) (h : a.size ≤ 2000) : ∀ p ∈ [(a, b)], p.1.size ≤ 2000 := fun p hp => by
  rw [List.mem_singleton.1 hp]; exact h
theorem post_names (s : Sh) (m : ByteArray) (l : List (ByteArray × ByteArray)) : Short (post s m l).2 := by
  unfold post
  repeat' split
  all_goals first
    | exact said_names _ _ none_names
    | exact said_names _ _ (one_names _ (by decide))
theorem patch_names (s : Sh) (u : Sp.Up) (l : List (ByteArray × ByteArray)) (body : List UInt8) : Short (patch s u l body).2 := by
  unfold patch
  repeat' split
  all_goals first
    | exact said_names _ _ none_names
    | exact said_names _ _ (one_names _ (by decide))
theorem head_names (u : Sp.Up) : Short (head u) := by
  unfold head
  refine said_names _ _ (fun p hp => ?_)
  rcases List.mem_cons.1 hp with e | e
  · subst e; show fUO.size ≤ 2000; decide
  · rcases List.mem_cons.1 e with e | e
    · subst e
      split
      · decide
      · show fUL.size ≤ 2000; decide
    · rcases List.mem_cons.1 e with e | e
      · subst e; decide
      · split at e
        · cases e
        · rw [List.mem_singleton.1 e]; show fUM.size ≤ 2000; decide
theorem ask_names (s : Sh) (u : Sp.Up) (m : ByteArray) (l : List (ByteArray × ByteArray)) (body : List UInt8) : Short (ask s u m l body).2 := by
  unfold ask
  split
  · exact head_names u
  · split
    · split
      · exact said_names _ _ none_names
      · exact said_names _ _ none_names
    · split
      · exact patch_names s u l body
      · exact said_names _ _ none_names
theorem tus_names (s : Sh) (m t : ByteArray) (l : List (ByteArray × ByteArray)) (body : List UInt8) : Short (tus s m t l body).2 := by
  unfold tus
  split
  · refine said_names _ _ (fun p hp => ?_)
    rcases List.mem_cons.1 hp with e | e
    · subst e; decide
    · rcases List.mem_cons.1 e with e | e
      · subst e; decide
      · rw [List.mem_singleton.1 e]; decide
  · split
    · exact said_names _ _ none_names
    · split
      · exact said_names _ _ (one_names _ (by decide))
      · split
        · exact post_names s m l
        · split
          · exact said_names _ _ none_names
          · exact ask_names s _ m l body
end Go.Proofs.YtdclmpdjjkjfjaaGreatDoor.Tu
