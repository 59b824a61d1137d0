/- Small texts, one behind the other: PlainSA, PlainTu, PlainTx. -/
import Derived.Test.YtdclmpdjjkjfjaaGreatDoorPk1
import Derived.Test.YtdclmpdjjkjfjaaGreatDoorPk2
/- Plain: a store: uploads, and a log of what was done to them; no program in it. -/
namespace Go.Proofs.YtdclmpdjjkjfjaaGreatDoor.Sr

/-- a text of these bytes -/
def ofL (l : List UInt8) : ByteArray := ⟨l.toArray⟩
theorem ofL_data (m : ByteArray) : ofL m.data.toList = m := by cases m; simp [ofL]
theorem ofL_list (l : List UInt8) : (ofL l).data.toList = l := by simp [ofL]
theorem ofL_size (l : List UInt8) : (ofL l).size = l.length := by simp [ofL, ByteArray.size]
/-- a store: its uploads, its log, how many bytes of it are made sure of -/
structure Sh where
  h : Sp.St
  log : List UInt8
  sure : Nat
def new : Sh := ⟨Sp.new, [], 0⟩
/-- an upload is made -/
def made (s : Sp.St) (size : Int) (m : ByteArray) : Sp.St × Nat := ((Sp.create s size m).1, (Sp.create s size m).2.2)
/-- how many bytes an upload has; 0 where there is none -/
def lenOf (s : Sp.St) (id : Int) : Nat := match Sp.place s.l id with
  | none => 0
  | some i => match s.l[i]? with
    | none => 0
    | some u => u.bytes.length
theorem lenOf_none {s : Sp.St} {id : Int} (h : Sp.place s.l id = none) : lenOf s id = 0 := by unfold lenOf; rw [h]
theorem lenOf_some {s : Sp.St} {id : Int} {i : Nat} (h : Sp.place s.l id = some i) : lenOf s id = (s.l[i]'(Sp.place_lt h)).bytes.length := by
  unfold lenOf; rw [h]; simp only [List.getElem?_eq_getElem (Sp.place_lt h)]
/-- what an entry says is done -/
def played (s : Sp.St) (e : Jn.E) : Sp.St × Nat :=
  if e.kind = 1 then made s e.n (ofL e.text) else if e.kind = 2 then Sp.append s e.id (lenOf s e.id) e.text else if e.kind = 3 then Sp.declare s e.id e.n else if e.kind = 4 then Sp.drop s e.id else if e.kind = 5 then Sp.begins s e.id else Sp.ends s e.id
def playAll (s : Sp.St) (l : List Jn.E) : Sp.St := l.foldl (fun h e => (played h e).1) s
/-- something was done to the uploads, or not; its entry is written, or not -/
def write (s : Sh) (r : Sp.St × Nat) (e : Jn.E) : Sh × Nat :=
  if r.2 ≠ 0 then (s, r.2) else if Jn.fits e = false then (s, 1) else if 100000 < s.log.length + (Jn.enc e).length then (s, 16) else (⟨r.1, s.log ++ Jn.enc e, s.sure⟩, 0)
def create (s : Sh) (size : Int) (m : ByteArray) : Sh × Nat := write s (made s.h size m) ⟨1, s.h.last + 1, size, m.data.toList⟩
/-- the number that Create answers -/
def numb (s : Sh) (c : Nat) : Int := if c = 0 then s.h.last + 1 else 0
def append (s : Sh) (id off : Int) (b : List UInt8) : Sh × Nat := write s (Sp.append s.h id off b) ⟨2, id, 0, b⟩
def declare (s : Sh) (id size : Int) : Sh × Nat := write s (Sp.declare s.h id size) ⟨3, id, size, []⟩
def drop (s : Sh) (id : Int) : Sh × Nat := write s (Sp.drop s.h id) ⟨4, id, 0, []⟩
def begins (s : Sh) (id : Int) : Sh × Nat := write s (Sp.begins s.h id) ⟨5, id, 0, []⟩
def ends (s : Sh) (id : Int) : Sh × Nat := write s (Sp.ends s.h id) ⟨6, id, 0, []⟩
def sync (s : Sh) : Sh := ⟨s.h, s.log, s.log.length⟩
def stays (keep : Int) (d : Nat) : Nat := min (max keep 0).toNat d
/-- how many bytes of the log a crash leaves -/
def left (s : Sh) (keep : Int) : Nat := s.sure + stays keep (s.log.length - s.sure)
def crash (s : Sh) (keep : Int) : Sh := ⟨playAll Sp.new (Jn.dec (s.log.take (left s keep))).1, s.log.take (Jn.dec (s.log.take (left s keep))).2, (Jn.dec (s.log.take (left s keep))).2⟩
/-- what holds of a store, whatever was asked of it -/
structure Ok (s : Sh) : Prop where
  h : Sp.Ok s.h
  last : s.h.last ≤ s.log.length
  sure : s.sure ≤ s.log.length
  few : s.log.length ≤ 100000
theorem Ok.new : Ok new := ⟨Sp.Ok.new, by simp [Sr.new, Sp.new], by simp [Sr.new], by simp [Sr.new]⟩
theorem Ok.last_ {s : Sh} (h : Ok s) : s.h.last ≤ 100000 := by have := h.last; have := h.few; omega
theorem left_le {s : Sh} (h : s.sure ≤ s.log.length) (keep : Int) : left s keep ≤ s.log.length := by unfold left stays; omega
theorem made_ok {s : Sp.St} (h : Sp.Ok s) (size : Int) (m : ByteArray) : Sp.Ok (made s size m).1 := h.create size m
theorem made_last (s : Sp.St) (size : Int) (m : ByteArray) : (made s size m).1.last ≤ s.last + 1 := Sp.last_le_create s size m
theorem played_ok {s : Sp.St} (h : Sp.Ok s) (e : Jn.E) : Sp.Ok (played s e).1 := by
  unfold played
  split
  · exact made_ok h _ _
  · split
    · exact h.append ..
    · split
      · exact h.declare ..
      · split
        · exact h.drop ..
        · split
          · exact h.begins ..
          · exact h.ends ..
theorem played_last (s : Sp.St) (e : Jn.E) : (played s e).1.last ≤ s.last + 1 := by
  unfold played
  split
  · exact made_last s _ _
  · split
    · rw [Sp.last_append]; omega
    · split
      · rw [Sp.last_declare]; omega
      · split
        · rw [Sp.last_drop]; omega
        · split
          · rw [Sp.last_begins]; omega
          · rw [Sp.last_ends]; omega
theorem playAll_nil (s : Sp.St) : playAll s [] = s := rfl
theorem playAll_snoc (s : Sp.St) (l : List Jn.E) (e : Jn.E) : playAll s (l ++ [e]) = (played (playAll s l) e).1 := by simp [playAll]
theorem playAll_take (s : Sp.St) (l : List Jn.E) (k : Nat) (h : k < l.length) : playAll s (l.take (k + 1)) = (played (playAll s (l.take k)) l[k]).1 := by
  rw [List.take_succ_eq_append_getElem h, playAll_snoc]
theorem playAll_ok : ∀ (l : List Jn.E) {s : Sp.St}, Sp.Ok s → Sp.Ok (playAll s l)
  | [], _, h => h
  | e :: t, _, h => playAll_ok t (played_ok h e)
theorem playAll_last : ∀ (l : List Jn.E) (s : Sp.St), (playAll s l).last ≤ s.last + l.length
  | [], s => by simp [playAll]
  | e :: t, s => by
    have h1 := playAll_last t (played s e).1
    have h2 := played_last s e
    show (playAll (played s e).1 t).last ≤ _
    simp only [List.length_cons]; omega
theorem write_code {s : Sh} {r : Sp.St × Nat} {e : Jn.E} (h : r.2 ≠ 0) : write s r e = (s, r.2) := by unfold write; rw [if_pos h]
theorem write_bad {s : Sh} {r : Sp.St × Nat} {e : Jn.E} (h : r.2 = 0) (hf : Jn.fits e = false) : write s r e = (s, 1) := by unfold write; rw [if_neg (by simpa using h), if_pos hf]
theorem write_full {s : Sh} {r : Sp.St × Nat} {e : Jn.E} (h : r.2 = 0) (hf : Jn.fits e = true) (hl : 100000 < s.log.length + (Jn.enc e).length) : write s r e = (s, 16) := by unfold write; rw [if_neg (by simpa using h), if_neg (by simp [hf]), if_pos hl]
theorem write_yes {s : Sh} {r : Sp.St × Nat} {e : Jn.E} (h : r.2 = 0) (hf : Jn.fits e = true) (hl : ¬ 100000 < s.log.length + (Jn.enc e).length) : write s r e = (⟨r.1, s.log ++ Jn.enc e, s.sure⟩, 0) := by unfold write; rw [if_neg (by simpa using h), if_neg (by simp [hf]), if_neg hl]
theorem Ok.write {s : Sh} (h : Ok s) {r : Sp.St × Nat} (hr : Sp.Ok r.1) (hl : r.1.last ≤ s.h.last + 1) (e : Jn.E) : Ok (write s r e).1 := by
  unfold Sr.write
  split
  · exact h
  · split
    · exact h
    · split
      · exact h
      · rename_i h3
        have h1 := h.last; have h2 := h.sure
        have hp := Jn.enc_pos e
        refine ⟨hr, ?_, ?_, ?_⟩
        · simp only [List.length_append]; omega
        · simp only [List.length_append]; omega
        · simp only [List.length_append]; omega
theorem Ok.create {s : Sh} (h : Ok s) (size : Int) (m : ByteArray) : Ok (create s size m).1 := h.write (made_ok h.h _ _) (made_last _ _ _) _
theorem Ok.append {s : Sh} (h : Ok s) (id off : Int) (b : List UInt8) : Ok (append s id off b).1 := h.write (h.h.append ..) (by rw [Sp.last_append]; omega) _
theorem Ok.declare {s : Sh} (h : Ok s) (id size : Int) : Ok (declare s id size).1 := h.write (h.h.declare ..) (by rw [Sp.last_declare]; omega) _
theorem Ok.drop {s : Sh} (h : Ok s) (id : Int) : Ok (drop s id).1 := h.write (h.h.drop ..) (by rw [Sp.last_drop]; omega) _
theorem Ok.begins {s : Sh} (h : Ok s) (id : Int) : Ok (begins s id).1 := h.write (h.h.begins ..) (by rw [Sp.last_begins]; omega) _
theorem Ok.ends {s : Sh} (h : Ok s) (id : Int) : Ok (ends s id).1 := h.write (h.h.ends ..) (by rw [Sp.last_ends]; omega) _
theorem Ok.sync {s : Sh} (h : Ok s) : Ok (sync s) := ⟨h.h, h.last, Nat.le_refl _, h.few⟩
/-- what a crash leaves: bounds -/
theorem dec_le (s : Sh) (keep : Int) : (Jn.dec (s.log.take (left s keep))).2 ≤ s.log.length ∧ (Jn.dec (s.log.take (left s keep))).2 ≤ left s keep ∧ (Jn.dec (s.log.take (left s keep))).1.length ≤ (Jn.dec (s.log.take (left s keep))).2 := by
  obtain ⟨_, h2, _, h4⟩ := Jn.dec_back _ (s.log.take (left s keep)) (Nat.le_refl _)
  rw [List.length_take] at h2
  omega
theorem Ok.crash {s : Sh} (h : Ok s) (keep : Int) : Ok (crash s keep) := by
  obtain ⟨h1, _, h2⟩ := dec_le s keep
  have h3 := playAll_last (Jn.dec (s.log.take (left s keep))).1 Sp.new
  have h4 := h.few
  have h0 : Sp.new.last = 0 := rfl
  refine ⟨playAll_ok _ Sp.Ok.new, ?_, ?_, ?_⟩
  · show (playAll Sp.new _).last ≤ _
    simp only [Sr.crash, List.length_take]; omega
  · simp only [Sr.crash, List.length_take]; omega
  · simp only [Sr.crash, List.length_take]; omega
/-- a step that may be asked of a store: 0 to 5 as of a spool, 6 Sync, 7 Crash -/
abbrev X := Stp
def doH (s : Sp.St) (x : X) : Sp.St × Nat := if x.op = 0 then made s x.n x.text else if x.op = 1 then Sp.append s x.id x.n x.text.data.toList else if x.op = 2 then Sp.declare s x.id x.n else if x.op = 3 then Sp.drop s x.id else if x.op = 4 then Sp.begins s x.id else Sp.ends s x.id
def entry (s : Sp.St) (x : X) : Jn.E := if x.op = 0 then ⟨1, s.last + 1, x.n, x.text.data.toList⟩ else if x.op = 1 then ⟨2, x.id, 0, x.text.data.toList⟩ else if x.op = 2 then ⟨3, x.id, x.n, []⟩ else if x.op = 3 then ⟨4, x.id, 0, []⟩ else if x.op = 4 then ⟨5, x.id, 0, []⟩ else ⟨6, x.id, 0, []⟩
def step (s : Sh) (x : X) : Sh × Nat := if x.op = 0 then create s x.n x.text else if x.op = 1 then append s x.id x.n x.text.data.toList else if x.op = 2 then declare s x.id x.n else if x.op = 3 then drop s x.id else if x.op = 4 then begins s x.id else if x.op = 5 then ends s x.id else if x.op = 6 then (sync s, 0) else if x.op = 7 then (crash s x.n, 0) else (s, 0)
/-- the number that a step answers -/
def gave_ (s : Sh) (x : X) : Int := if x.op = 0 then numb s (create s x.n x.text).2 else 0
theorem Ok.step {s : Sh} (h : Ok s) (x : X) : Ok (step s x).1 := by
  unfold Sr.step
  split
  · exact h.create ..
  · split
    · exact h.append ..
    · split
      · exact h.declare ..
      · split
        · exact h.drop ..
        · split
          · exact h.begins ..
          · split
            · exact h.ends ..
            · split
              · exact h.sync
              · split
                · exact h.crash ..
                · exact h
end Go.Proofs.YtdclmpdjjkjfjaaGreatDoor.Sr

/- Plain: uploads in pieces, as they are asked for: a reply, and what becomes of a store; no program in it. -/
namespace Go.Proofs.YtdclmpdjjkjfjaaGreatDoor.Tu

/-- /files -/
def bFiles : ByteArray := ⟨#[47, 102, 105, 108, 101, 115]⟩
/-- /files/ -/
def bFilesS : ByteArray := ⟨#[47, 102, 105, 108, 101, 115, 47]⟩
/-- OPTIONS -/
def mOpt : ByteArray := ⟨#[79, 80, 84, 73, 79, 78, 83]⟩
/-- POST -/
def mPost : ByteArray := ⟨#[80, 79, 83, 84]⟩
/-- HEAD -/
def mHead : ByteArray := ⟨#[72, 69, 65, 68]⟩
/-- DELETE -/
def mDel : ByteArray := ⟨#[68, 69, 76, 69, 84, 69]⟩
/-- PATCH -/
def mPat : ByteArray := ⟨#[80, 65, 84, 67, 72]⟩
/-- tus-resumable -/
def nTR : ByteArray := ⟨#[116, 117, 115, 45, 114, 101, 115, 117, 109, 97, 98, 108, 101]⟩
/-- upload-length -/
def nUL : ByteArray := ⟨#[117, 112, 108, 111, 97, 100, 45, 108, 101, 110, 103, 116, 104]⟩
/-- upload-defer-length -/
def nUD : ByteArray := ⟨#[117, 112, 108, 111, 97, 100, 45, 100, 101, 102, 101, 114, 45, 108, 101, 110, 103, 116, 104]⟩
/-- upload-metadata -/
def nUM : ByteArray := ⟨#[117, 112, 108, 111, 97, 100, 45, 109, 101, 116, 97, 100, 97, 116, 97]⟩
/-- content-type -/
def nCT : ByteArray := ⟨#[99, 111, 110, 116, 101, 110, 116, 45, 116, 121, 112, 101]⟩
/-- upload-offset -/
def nUO : ByteArray := ⟨#[117, 112, 108, 111, 97, 100, 45, 111, 102, 102, 115, 101, 116]⟩
/-- Tus-Resumable -/
def fTR : ByteArray := ⟨#[84, 117, 115, 45, 82, 101, 115, 117, 109, 97, 98, 108, 101]⟩
/-- 1.0.0 -/
def v100 : ByteArray := ⟨#[49, 46, 48, 46, 48]⟩
/-- Tus-Version -/
def fTV : ByteArray := ⟨#[84, 117, 115, 45, 86, 101, 114, 115, 105, 111, 110]⟩
/-- Tus-Max-Size -/
def fTX : ByteArray := ⟨#[84, 117, 115, 45, 77, 97, 120, 45, 83, 105, 122, 101]⟩
/-- 2000 -/
def v2000 : ByteArray := ⟨#[50, 48, 48, 48]⟩
/-- Tus-Extension -/
def fTE : ByteArray := ⟨#[84, 117, 115, 45, 69, 120, 116, 101, 110, 115, 105, 111, 110]⟩
/-- creation,creation-defer-length,termination -/
def vTE : ByteArray := ⟨#[99, 114, 101, 97, 116, 105, 111, 110, 44, 99, 114, 101, 97, 116, 105, 111, 110, 45, 100, 101, 102, 101, 114, 45, 108, 101, 110, 103, 116, 104, 44, 116, 101, 114, 109, 105, 110, 97, 116, 105, 111, 110]⟩
/-- Location -/
def fLo : ByteArray := ⟨#[76, 111, 99, 97, 116, 105, 111, 110]⟩
/-- Upload-Offset -/
def fUO : ByteArray := ⟨#[85, 112, 108, 111, 97, 100, 45, 79, 102, 102, 115, 101, 116]⟩
/-- Upload-Length -/
def fUL : ByteArray := ⟨#[85, 112, 108, 111, 97, 100, 45, 76, 101, 110, 103, 116, 104]⟩
/-- Upload-Defer-Length -/
def fUD : ByteArray := ⟨#[85, 112, 108, 111, 97, 100, 45, 68, 101, 102, 101, 114, 45, 76, 101, 110, 103, 116, 104]⟩
/-- 1 -/
def vOne : ByteArray := ⟨#[49]⟩
/-- Cache-Control -/
def fCC : ByteArray := ⟨#[67, 97, 99, 104, 101, 45, 67, 111, 110, 116, 114, 111, 108]⟩
/-- no-store -/
def vNS : ByteArray := ⟨#[110, 111, 45, 115, 116, 111, 114, 101]⟩
/-- Upload-Metadata -/
def fUM : ByteArray := ⟨#[85, 112, 108, 111, 97, 100, 45, 77, 101, 116, 97, 100, 97, 116, 97]⟩
/-- application/offset+octet-stream -/
def vOff : ByteArray := ⟨#[97, 112, 112, 108, 105, 99, 97, 116, 105, 111, 110, 47, 111, 102, 102, 115, 101, 116, 43, 111, 99, 116, 101, 116, 45, 115, 116, 114, 101, 97, 109]⟩
/-- a field, by its values -/
def one (vs : List ByteArray) : List UInt8 × Nat :=
  match vs with
  | [] => ([], 10)
  | [v] => (v.data.toList, 0)
  | _ => ([], 9)
/-- the values of a name's fields -/
def vals (name : ByteArray) (l : List (ByteArray × ByteArray)) : List ByteArray := (l.filter fun p => decide (Ch.lower p.1.data.toList = Ch.lower name.data.toList)).map (·.2)
/-- the number of a field; -1: it is not there; false: it is none, or there are several -/
def numIn (r : List UInt8 × Nat) : Int × Bool := if r.2 = 10 then (-1, true) else ((Ch.number 10 9 r.1).1, (Ch.number 10 9 r.1).2 && decide (r.2 = 0))
/-- a reply: its status, its fields -/
abbrev Rep := Nat × List (ByteArray × ByteArray)
def said (st : Nat) (l : List (ByteArray × ByteArray)) : Rep := (st, (fTR, v100) :: l)
/-- what a code comes to -/
def status (c : Nat) : Nat := if c = 10 then 404 else if c = 17 ∨ c = 19 then 409 else if c = 4 then 413 else if c = 8 ∨ c = 16 then 507 else 400
def dec (n : Nat) : ByteArray := ⟨(Ch.decF 8 n).toArray⟩
/-- the number that a target names, of nine digits at most, as short as can be -/
def numT (t : ByteArray) : Option Int :=
  if 7 < t.size ∧ t.data.toList.take 7 = bFilesS.data.toList ∧ (Ch.number 10 9 (t.data.toList.drop 7)).2 = true ∧ Ch.decF 8 (Ch.number 10 9 (t.data.toList.drop 7)).1.toNat = t.data.toList.drop 7 then some (Ch.number 10 9 (t.data.toList.drop 7)).1 else none
/-- the upload that a target names -/
def upAt (s : Sp.St) (t : ByteArray) : Option Sp.Up := match numT t with
  | none => none
  | some n => match Sp.place s.l n with
    | none => none
    | some i => s.l[i]?
/-- one more upload -/
def post (s : Sr.Sh) (m : ByteArray) (l : List (ByteArray × ByteArray)) : Sr.Sh × Rep :=
  if m ≠ mPost then (s, said 405 [])
  else if (numIn (one (vals nUL l))).2 = false then (s, said 400 [])
  else if (one (vals nUD l)).2 = 9 ∨ ((one (vals nUD l)).2 = 0 ∧ (one (vals nUD l)).1 ≠ vOne.data.toList) ∨ (0 ≤ (numIn (one (vals nUL l))).1 ↔ (one (vals nUD l)).2 = 0) then (s, said 400 [])
  else if (one (vals nUM l)).2 = 9 then (s, said 400 [])
  else if (Sr.create s (numIn (one (vals nUL l))).1 (Sr.ofL (one (vals nUM l)).1)).2 ≠ 0 then (s, said (status (Sr.create s (numIn (one (vals nUL l))).1 (Sr.ofL (one (vals nUM l)).1)).2) [])
  else (Sr.sync (Sr.create s (numIn (one (vals nUL l))).1 (Sr.ofL (one (vals nUM l)).1)).1, said 201 [(fLo, bFilesS ++ dec (s.h.last + 1).toNat)])
/-- what is told of an upload -/
def head (u : Sp.Up) : Rep := said 200 ((fUO, dec u.bytes.length) :: (if u.size < 0 then (fUD, vOne) else (fUL, dec u.size.toNat)) :: (fCC, vNS) :: (if u.note.size = 0 then [] else [(fUM, u.note)]))
/-- is a value of this type? -/
def isOff (v : List UInt8) : Bool := match Pm.media v with
  | .inl _ => false
  | .inr x => decide (x.1 = vOff.data.toList)
/-- is a length told that was not told yet? -/
def tell (u : Sp.Up) (l : List (ByteArray × ByteArray)) : Prop := 0 ≤ (numIn (one (vals nUL l))).1 ∧ u.size < 0
instance (u : Sp.Up) (l : List (ByteArray × ByteArray)) : Decidable (tell u l) := by unfold tell; exact inferInstance
/-- bytes behind those that there are -/
def patch (s : Sr.Sh) (u : Sp.Up) (l : List (ByteArray × ByteArray)) (body : List UInt8) : Sr.Sh × Rep :=
  if (one (vals nCT l)).2 = 9 then (s, said 400 [])
  else if isOff (one (vals nCT l)).1 = false then (s, said 415 [])
  else if (numIn (one (vals nUO l))).2 = false ∨ (numIn (one (vals nUO l))).1 < 0 then (s, said 400 [])
  else if (numIn (one (vals nUO l))).1 ≠ u.bytes.length then (s, said 409 [])
  else if (numIn (one (vals nUL l))).2 = false ∨ (0 ≤ (numIn (one (vals nUL l))).1 ∧ 0 ≤ u.size ∧ (numIn (one (vals nUL l))).1 ≠ u.size) then (s, said 400 [])
  else if tell u l ∧ (2000 < (numIn (one (vals nUL l))).1 ∨ (numIn (one (vals nUL l))).1 < u.bytes.length + body.length) then (s, said 413 [])
  else if 100000 < s.log.length + (body.length + 60) then (s, said 507 [])
  else if (Sr.append s u.id u.bytes.length body).2 ≠ 0 then (s, said (status (Sr.append s u.id u.bytes.length body).2) [])
  else (Sr.sync (if tell u l then (Sr.declare (Sr.append s u.id u.bytes.length body).1 u.id (numIn (one (vals nUL l))).1).1 else (Sr.append s u.id u.bytes.length body).1), said 204 [(fUO, dec (u.bytes.length + body.length))])
/-- what is asked of an upload that there is -/
def ask (s : Sr.Sh) (u : Sp.Up) (m : ByteArray) (l : List (ByteArray × ByteArray)) (body : List UInt8) : Sr.Sh × Rep :=
  if m = mHead then (s, head u)
  else if m = mDel then (if (Sr.drop s u.id).2 ≠ 0 then (s, said (status (Sr.drop s u.id).2) []) else (Sr.sync (Sr.drop s u.id).1, said 204 []))
  else if m = mPat then patch s u l body else (s, said 405 [])
def tus (s : Sr.Sh) (m t : ByteArray) (l : List (ByteArray × ByteArray)) (body : List UInt8) : Sr.Sh × Rep :=
  if t = bFiles ∧ m = mOpt then (s, said 204 [(fTV, v100), (fTX, v2000), (fTE, vTE)])
  else if (one (vals nTR l)).2 = 9 then (s, said 400 [])
  else if (one (vals nTR l)).1 ≠ v100.data.toList then (s, said 412 [(fTV, v100)])
  else if t = bFiles then post s m l
  else match upAt s.h t with
    | none => (s, said 404 [])
    | some u => ask s u m l body

/-! ### what holds of it -/
theorem write_same {s : Sr.Sh} {r : Sp.St × Nat} {e : Jn.E} (h : (Sr.write s r e).2 ≠ 0) : (Sr.write s r e).1 = s := by
  unfold Sr.write at h ⊢
  split
  · rfl
  · split
    · rfl
    · split
      · rfl
      · rename_i h1 h2 h3
        rw [if_neg h1, if_neg h2, if_neg h3] at h
        exact absurd rfl h
theorem upAt_mem {s : Sp.St} {t : ByteArray} {u : Sp.Up} (h : upAt s t = some u) : u ∈ s.l ∧ ∃ n i, numT t = some n ∧ Sp.place s.l n = some i ∧ s.l[i]? = some u ∧ u.id = n := by
  unfold upAt at h
  split at h
  · cases h
  · rename_i n hn
    split at h
    · cases h
    · rename_i i hi
      obtain ⟨x, hx, hid⟩ := Sp.place_at s.l n i hi
      rw [hx] at h
      injection h with h
      subst h
      exact ⟨List.mem_of_getElem? hx, n, i, hn, hi, hx, hid⟩
theorem post_ok {s : Sr.Sh} (h : Sr.Ok s) (m : ByteArray) (l : List (ByteArray × ByteArray)) : Sr.Ok (post s m l).1 := by
  unfold post
  repeat' split
  all_goals first
    | exact h
    | exact (h.create _ _).sync
theorem patch_ok {s : Sr.Sh} (h : Sr.Ok s) (u : Sp.Up) (l : List (ByteArray × ByteArray)) (body : List UInt8) : Sr.Ok (patch s u l body).1 := by
  unfold patch
  repeat' split
  all_goals first
    | exact h
    | exact ((h.append _ _ _).declare _ _).sync
    | exact (h.append _ _ _).sync
theorem ask_ok {s : Sr.Sh} (h : Sr.Ok s) (u : Sp.Up) (m : ByteArray) (l : List (ByteArray × ByteArray)) (body : List UInt8) : Sr.Ok (ask s u m l body).1 := by
  unfold ask
  repeat' split
  all_goals first
    | exact h
    | exact (h.drop _).sync
    | exact patch_ok h u l body
theorem tus_ok {s : Sr.Sh} (h : Sr.Ok s) (m t : ByteArray) (l : List (ByteArray × ByteArray)) (body : List UInt8) : Sr.Ok (tus s m t l body).1 := by
  unfold tus
  split
  · exact h
  · split
    · exact h
    · split
      · exact h
      · split
        · exact post_ok h m l
        · split
          · exact h
          · exact ask_ok h _ m l body
/-- WHAT IS REFUSED CHANGES NOTHING, WHAT IS GRANTED IS MADE SURE OF -/
structure Fair (s : Sr.Sh) (r : Sr.Sh × Rep) : Prop where
  same : 400 ≤ r.2.1 → r.1 = s
  sure : r.1 = s ∨ r.1.sure = r.1.log.length
  first : ∃ t, r.2.2 = (fTR, v100) :: t
theorem fair_same {s : Sr.Sh} (st : Nat) (l : List (ByteArray × ByteArray)) : Fair s (s, said st l) := ⟨fun _ => rfl, Or.inl rfl, _, rfl⟩
theorem fair_sync {s x : Sr.Sh} (st : Nat) (l : List (ByteArray × ByteArray)) (h : st < 400) : Fair s (Sr.sync x, said st l) := ⟨fun e => absurd e (by show ¬ 400 ≤ st; omega), Or.inr rfl, _, rfl⟩
theorem post_fair (s : Sr.Sh) (m : ByteArray) (l : List (ByteArray × ByteArray)) : Fair s (post s m l) := by
  unfold post
  repeat' split
  all_goals first
    | exact fair_same _ _
    | exact fair_sync _ _ (by decide)
theorem patch_fair (s : Sr.Sh) (u : Sp.Up) (l : List (ByteArray × ByteArray)) (body : List UInt8) : Fair s (patch s u l body) := by
  unfold patch
  repeat' split
  all_goals first
    | exact fair_same _ _
    | exact fair_sync _ _ (by decide)
theorem ask_fair (s : Sr.Sh) (u : Sp.Up) (m : ByteArray) (l : List (ByteArray × ByteArray)) (body : List UInt8) : Fair s (ask s u m l body) := by
  unfold ask
  repeat' split
  all_goals first
    | exact fair_same _ _
    | exact fair_sync _ _ (by decide)
    | exact patch_fair s u l body
theorem tus_fair (s : Sr.Sh) (m t : ByteArray) (l : List (ByteArray × ByteArray)) (body : List UInt8) : Fair s (tus s m t l body) := by
  unfold tus
  split
  · exact fair_same _ _
  · split
    · exact fair_same _ _
    · split
      · exact fair_same _ _
      · split
        · exact post_fair s m l
        · split
          · exact fair_same _ _
          · exact ask_fair s _ m l body
end Go.Proofs.YtdclmpdjjkjfjaaGreatDoor.Tu

/- Plain: how much a request about an upload can write into a log; what is dropped has room there. -/
namespace Go.Proofs.YtdclmpdjjkjfjaaGreatDoor.Tu
open Sr

theorem write_log (s : Sh) (r : Sp.St × Nat) (e : Jn.E) : (Sr.write s r e).1.log.length ≤ s.log.length + e.text.length + 20 := by
  unfold Sr.write
  split
  · show s.log.length ≤ _; omega
  · split
    · show s.log.length ≤ _; omega
    · rename_i hf
      split
      · show s.log.length ≤ _; omega
      · show (s.log ++ Jn.enc e).length ≤ _
        rw [List.length_append]
        have := Jn.enc_text (e := e) (by simpa using hf)
        omega
theorem create_log (s : Sh) (size : Int) (m : ByteArray) : (Sr.create s size m).1.log.length ≤ s.log.length + 120 := by
  by_cases h : m.size ≤ 100
  · have := write_log s (made s.h size m) ⟨1, s.h.last + 1, size, m.data.toList⟩
    have e : m.data.toList.length = m.size := by rw [Array.length_toList]; rfl
    simp only at this
    unfold Sr.create
    omega
  · have hc : (made s.h size m).2 ≠ 0 := by
      unfold made Sp.create
      split
      · simp
      · rw [if_pos (Or.inr (by omega))]; simp
    unfold Sr.create
    rw [write_code hc]
    show s.log.length ≤ _; omega
theorem post_log (s : Sh) (m : ByteArray) (l : List (ByteArray × ByteArray)) : (post s m l).1.log.length ≤ s.log.length + 120 := by
  unfold post
  repeat' split
  all_goals first
    | (show s.log.length ≤ _; omega)
    | exact create_log s _ _
theorem append_log (s : Sh) (id off : Int) (b : List UInt8) : (Sr.append s id off b).1.log.length ≤ s.log.length + b.length + 20 := write_log s _ _
theorem declare_log (s : Sh) (id n : Int) : (Sr.declare s id n).1.log.length ≤ s.log.length + 20 := by
  have := write_log s (Sp.declare s.h id n) ⟨3, id, n, []⟩
  simpa [Sr.declare] using this
theorem drop_log (s : Sh) (id : Int) : (Sr.drop s id).1.log.length ≤ s.log.length + 20 := by
  have := write_log s (Sp.drop s.h id) ⟨4, id, 0, []⟩
  simpa [Sr.drop] using this
theorem patch_log (s : Sh) (u : Sp.Up) (l : List (ByteArray × ByteArray)) (body : List UInt8) : (patch s u l body).1.log.length ≤ s.log.length + body.length + 120 := by
  have h1 := append_log s u.id u.bytes.length body
  have h2 := declare_log (Sr.append s u.id u.bytes.length body).1 u.id (numIn (one (vals nUL l))).1
  unfold patch
  split
  · show s.log.length ≤ _; omega
  split
  · show s.log.length ≤ _; omega
  split
  · show s.log.length ≤ _; omega
  split
  · show s.log.length ≤ _; omega
  split
  · show s.log.length ≤ _; omega
  split
  · show s.log.length ≤ _; omega
  split
  · show s.log.length ≤ _; omega
  split
  · show s.log.length ≤ _; omega
  · show (if tell u l then (Sr.declare (Sr.append s u.id u.bytes.length body).1 u.id (numIn (one (vals nUL l))).1).1 else (Sr.append s u.id u.bytes.length body).1).log.length ≤ _
    split
    · omega
    · omega
theorem ask_log (s : Sh) (u : Sp.Up) (m : ByteArray) (l : List (ByteArray × ByteArray)) (body : List UInt8) : (ask s u m l body).1.log.length ≤ s.log.length + body.length + 120 := by
  unfold ask
  split
  · show s.log.length ≤ _; omega
  · split
    · split
      · show s.log.length ≤ _; omega
      · show (Sr.drop s u.id).1.log.length ≤ _
        have := drop_log s u.id
        omega
    · split
      · exact patch_log s u l body
      · show s.log.length ≤ _; omega
/-- HOW MUCH A REQUEST WRITES -/
theorem tus_log (s : Sh) (m t : ByteArray) (l : List (ByteArray × ByteArray)) (body : List UInt8) : (tus s m t l body).1.log.length ≤ s.log.length + body.length + 120 := by
  unfold tus
  split
  · show s.log.length ≤ _; omega
  · split
    · show s.log.length ≤ _; omega
    · split
      · show s.log.length ≤ _; omega
      · split
        · have := post_log s m l; omega
        · split
          · show s.log.length ≤ _; omega
          · exact ask_log s _ m l body
/-- a reply has few fields -/
theorem said_few (st : Nat) (l : List (ByteArray × ByteArray)) (h : l.length ≤ 4) : (said st l).2.length ≤ 5 := by
  show (_ :: l).length ≤ 5
  simp only [List.length_cons]; omega
theorem post_few (s : Sh) (m : ByteArray) (l : List (ByteArray × ByteArray)) : (post s m l).2.2.length ≤ 5 := by
  unfold post
  repeat' split
  all_goals exact said_few _ _ (by simp)
theorem patch_few (s : Sh) (u : Sp.Up) (l : List (ByteArray × ByteArray)) (body : List UInt8) : (patch s u l body).2.2.length ≤ 5 := by
  unfold patch
  repeat' split
  all_goals exact said_few _ _ (by simp)
theorem head_few (u : Sp.Up) : (head u).2.length ≤ 5 := by
  unfold head
  refine said_few _ _ ?_
  simp only [List.length_cons]
  split
  · simp
  · simp
theorem ask_few (s : Sh) (u : Sp.Up) (m : ByteArray) (l : List (ByteArray × ByteArray)) (body : List UInt8) : (ask s u m l body).2.2.length ≤ 5 := by
  unfold ask
  split
  · exact head_few u
  · split
    · split
      · exact said_few _ _ (by simp)
      · exact said_few _ _ (by simp)
    · split
      · exact patch_few s u l body
      · exact said_few _ _ (by simp)
theorem tus_few (s : Sh) (m t : ByteArray) (l : List (ByteArray × ByteArray)) (body : List UInt8) : (tus s m t l body).2.2.length ≤ 5 := by
  unfold tus
  split
  · exact said_few _ _ (by simp)
  · split
    · exact said_few _ _ (by simp)
    · split
      · exact said_few _ _ (by simp)
      · split
        · exact post_few s m l
        · split
          · exact said_few _ _ (by simp)
          · exact ask_few s _ m l body
/-- an upload that there is can be dropped, if there is room for it -/
theorem drop_room {s : Sh} (ok : Sr.Ok s) {t : ByteArray} {u : Sp.Up} (hu : upAt s.h t = some u) (hl : s.log.length ≤ 99000) : (Sr.drop s u.id).2 = 0 := by
  obtain ⟨hm, n, i, hn, hp, hi, hid⟩ := upAt_mem hu
  subst hid
  have h1 := ok.h.all u hm
  have h2 := h1.low; have h3 := h1.high; have h4 := ok.last_
  have hf : Jn.fits ⟨4, u.id, 0, []⟩ = true := by
    rw [Jn.fits_iff]
    exact ⟨⟨by simp, by simp⟩, ⟨by show -1 ≤ u.id; omega, by show u.id ≤ _; omega⟩, ⟨by simp, by simp⟩, by simp⟩
  have he := Jn.enc_text hf
  simp only [List.length_nil] at he
  unfold Sr.drop
  rw [write_yes (by rw [Sp.drop_F, Sp.atUp_some hp]; rfl) hf (by omega)]
end Go.Proofs.YtdclmpdjjkjfjaaGreatDoor.Tu
