/- Small texts, one behind the other: PlainA, PlainL, PlainN, PlainLT, PlainB, PlainF, PlainCK, PlainUA, PlainUB, PlainP, PlainM, PlainT, PlainG. -/
import Derived.Lib.SlTrimSet
import Derived.Lib.IndexLaws
import Derived.Lib.Strings
import Derived.Below
/- Plain functions on bytes and texts, with no program in them: what package chars and the document's own answer come to. -/
namespace Go.Proofs.YtdclmpdjjkjfjaaGreatDoor.Ch

def digit (c : Int) : Bool := decide (48 ≤ c) && decide (c ≤ 57)
def capital (c : Int) : Bool := decide (65 ≤ c) && decide (c ≤ 90)
def letter (c : Int) : Bool := (decide (97 ≤ c) && decide (c ≤ 122)) || capital c
def visible (c : Int) : Bool := c == 9 || (decide (32 ≤ c) && c != 127)
/-- the marks that may stand in a token beside digits and letters -/
def marks : List UInt8 := [33, 35, 36, 37, 38, 39, 42, 43, 45, 46, 94, 95, 96, 124, 126]
def token (c : Int) : Bool := digit c || letter c || decide (0 ≤ Lib.indexByte marks c.toNat.toUInt8)
def oneOf (c : Int) (l : List UInt8) : Bool := l.any fun b => (b.toNat : Int) == c
def hex (c : Int) : Int := if digit c then c - 48 else if decide (97 ≤ c) && decide (c ≤ 102) then c - 87 else if decide (65 ≤ c) && decide (c ≤ 70) then c - 55 else -1

theorem byteAll {p : Int → Bool} (h : (List.range 256).all (fun n => p (n : Int)) = true) (c : Int) (h0 : 0 ≤ c) (h1 : c ≤ 255) : p c = true := by
  obtain ⟨n, rfl⟩ := Int.eq_ofNat_of_zero_le h0
  exact List.all_eq_true.1 h n (List.mem_range.2 (by omega))

/-- all bytes that may stand in a token, as the document's own answer lists them -/
def tokens : List UInt8 := [48, 49, 50, 51, 52, 53, 54, 55, 56, 57, 65, 66, 67, 68, 69, 70, 71, 72, 73, 74, 75, 76, 77, 78, 79, 80, 81, 82, 83, 84, 85, 86, 87, 88, 89, 90, 97, 98, 99, 100, 101, 102, 103, 104, 105, 106, 107, 108, 109, 110, 111, 112, 113, 114, 115, 116, 117, 118, 119, 120, 121, 122, 33, 35, 36, 37, 38, 39, 42, 43, 45, 46, 94, 95, 96, 124, 126]
theorem oneOf_tokens (c : Int) (h0 : 0 ≤ c) (h1 : c ≤ 255) : oneOf c tokens = token c := by
  have := byteAll (p := fun c => oneOf c tokens == token c) (by decide +kernel) c h0 h1
  simpa using this
def isToken (l : List UInt8) : Bool := !l.isEmpty && l.all fun b => token b.toNat
def allToken (l : List UInt8) : Bool := l.all fun b => token b.toNat
def isVisible (l : List UInt8) : Bool := l.all fun b => visible b.toNat

theorem hex_range (c : Int) (h0 : 0 ≤ c) (h1 : c ≤ 255) : -1 ≤ hex c ∧ hex c ≤ 15 := by
  have := byteAll (p := fun c => decide (-1 ≤ hex c ∧ hex c ≤ 15)) (by decide +kernel) c h0 h1
  simpa using this

theorem oneOf_snoc (c : Int) (l : List UInt8) (b : UInt8) : oneOf c (l ++ [b]) = (oneOf c l || ((b.toNat : Int) == c)) := by
  simp [oneOf]

theorem take_snoc (s : ByteArray) (k : Nat) (h : k < s.size) : s.data.toList.take (k + 1) = s.data.toList.take k ++ [s[k]] := by
  rw [List.take_succ_eq_append_getElem (by simpa using h)]; rfl

theorem take_all (s : ByteArray) (k : Nat) (h : s.size ≤ k) : s.data.toList.take k = s.data.toList :=
  List.take_of_length_le (by simpa using h)

/-- is there one, once it was met -/
theorem any_of_take (p : UInt8 → Bool) (s : ByteArray) (k : Nat) (h : k < s.size) (hp : p s[k] = true) : s.data.toList.any p = true := by
  rw [List.any_eq_true]
  exact ⟨s[k], by
    have : s[k] = s.data.toList[k]'(by simpa using h) := rfl
    rw [this]; exact List.getElem_mem _, hp⟩

theorem all_of_take (p : UInt8 → Bool) (s : ByteArray) (k : Nat) (h : k < s.size) (hp : p s[k] = false) : s.data.toList.all p = false := by
  rw [Bool.eq_false_iff, Ne, List.all_eq_true]
  intro hall
  have := hall s[k] (by
    have : s[k] = s.data.toList[k]'(by simpa using h) := rfl
    rw [this]; exact List.getElem_mem _)
  rw [this] at hp; cases hp

/-- a digit to a base -/
def dig (base : Int) (b : UInt8) : Bool := decide (0 ≤ hex b.toNat) && decide (hex b.toNat < base)
def numOf (base : Int) (l : List UInt8) : Int := l.foldl (fun n b => n * base + hex b.toNat) 0
def number (base most : Int) (l : List UInt8) : Int × Bool :=
  if l = [] ∨ most < l.length then (0, false) else if l.all (dig base) then (numOf base l, true) else (0, false)

theorem numOf_snoc (base : Int) (l : List UInt8) (b : UInt8) : numOf base (l ++ [b]) = numOf base l * base + hex b.toNat := by
  simp [numOf]

theorem hex_byte (b : UInt8) : -1 ≤ hex b.toNat ∧ hex b.toNat ≤ 15 := hex_range _ (by omega) (by have := b.toNat_lt; omega)

theorem numOf_aux (base : Int) (hb0 : 0 ≤ base) (hb1 : base ≤ 16) : ∀ (l : List UInt8) (n : Int) (B : Nat), 0 ≤ n → n < 16 ^ B → l.all (dig base) = true →
    0 ≤ l.foldl (fun n b => n * base + hex b.toNat) n ∧ l.foldl (fun n b => n * base + hex b.toNat) n < 16 ^ (B + l.length)
  | [], n, B, h0, h1, _ => ⟨h0, h1⟩
  | b :: l, n, B, h0, h1, hl => by
    rw [List.all_cons, Bool.and_eq_true] at hl
    have hx := hex_byte b
    have hd : 0 ≤ hex b.toNat := by
      have := hl.1; unfold dig at this; rw [Bool.and_eq_true] at this; exact of_decide_eq_true this.1
    have p0 : 0 ≤ n * base := Int.mul_nonneg h0 hb0
    have p1 : n * base ≤ n * 16 := Int.mul_le_mul_of_nonneg_left hb1 h0
    have e : (16 : Int) ^ (B + 1) = 16 ^ B * 16 := Int.pow_succ ..
    have := numOf_aux base hb0 hb1 l (n * base + hex b.toNat) (B + 1) (by omega) (by omega) hl.2
    rw [List.foldl_cons, List.length_cons, show B + (l.length + 1) = B + 1 + l.length by omega]
    exact this

theorem numOf_bound (base : Int) (hb0 : 0 ≤ base) (hb1 : base ≤ 16) (l : List UInt8) (hl : l.all (dig base) = true) (h9 : l.length ≤ 9) : 0 ≤ numOf base l ∧ numOf base l < 68719476736 := by
  have h := numOf_aux base hb0 hb1 l 0 0 (Int.le_refl _) (by decide) hl
  have : (16 : Int) ^ (0 + l.length) ≤ 16 ^ 9 := by
    have : (16 : Nat) ^ (0 + l.length) ≤ 16 ^ 9 := Nat.pow_le_pow_right (by decide) (by omega)
    exact_mod_cast this
  have e : (16 : Int) ^ 9 = 68719476736 := by decide
  exact ⟨h.1, by have := h.2; unfold numOf; omega⟩

theorem all_snoc (p : UInt8 → Bool) (l : List UInt8) (b : UInt8) : (l ++ [b]).all p = (l.all p && p b) := by simp

theorem number_short (base most : Int) (l : List UInt8) (h : l = [] ∨ most < l.length) : number base most l = (0, false) := by unfold number; rw [if_pos h]
theorem number_no (base most : Int) (l : List UInt8) (h : l.all (dig base) = false) : number base most l = (0, false) := by
  unfold number; split
  · rfl
  · rw [h]; rfl
theorem number_yes (base most : Int) (l : List UInt8) (h1 : l ≠ []) (h2 : ¬ most < l.length) (h : l.all (dig base) = true) : number base most l = (numOf base l, true) := by
  unfold number; rw [if_neg (by simp [h1, h2]), h]; rfl

theorem len_list (s : ByteArray) : s.data.toList.length = s.size := by simp
theorem ne_nil (s : ByteArray) (h : 0 < s.size) : s.data.toList ≠ [] := by
  intro e; have := len_list s; rw [e] at this; simp at this; omega
theorem empty_eq (s : ByteArray) (h : s.size = 0) : s = ⟨#[]⟩ := by
  apply ByteArray.ext; exact Array.eq_empty_of_size_eq_zero h
theorem isEmpty_false (s : ByteArray) (h : 0 < s.size) : s.toList.isEmpty = false := by
  rw [Lib.toList_data]
  cases h' : s.data.toList with
  | nil => exact absurd h' (ne_nil s h)
  | cons _ _ => rfl

/-- a byte in small letters; as far as the first j capitals are looked at -/
def lowTo (b : UInt8) (j : Nat) : UInt8 := if 65 ≤ b.toNat ∧ b.toNat < 65 + j then b + 32 else b
def lowB (b : UInt8) : UInt8 := lowTo b 26
def lower (l : List UInt8) : List UInt8 := l.map lowB

theorem caps_at (j : Nat) (h : j < 26) : ((⟨#[65, 66, 67, 68, 69, 70, 71, 72, 73, 74, 75, 76, 77, 78, 79, 80, 81, 82, 83, 84, 85, 86, 87, 88, 89, 90]⟩ : ByteArray)[j]'h).toNat = 65 + j :=
  (show ∀ j : Fin 26, ((⟨#[65, 66, 67, 68, 69, 70, 71, 72, 73, 74, 75, 76, 77, 78, 79, 80, 81, 82, 83, 84, 85, 86, 87, 88, 89, 90]⟩ : ByteArray)[j.val]'j.isLt).toNat = 65 + j.val by decide +kernel) ⟨j, h⟩
theorem lits_at (j : Nat) (h : j < 26) : ((⟨#[97, 98, 99, 100, 101, 102, 103, 104, 105, 106, 107, 108, 109, 110, 111, 112, 113, 114, 115, 116, 117, 118, 119, 120, 121, 122]⟩ : ByteArray).extract j (j + 1)).data.toList = [((97 + j).toUInt8)] :=
  (show ∀ j : Fin 26, ((⟨#[97, 98, 99, 100, 101, 102, 103, 104, 105, 106, 107, 108, 109, 110, 111, 112, 113, 114, 115, 116, 117, 118, 119, 120, 121, 122]⟩ : ByteArray).extract j.val (j.val + 1)).data.toList = [((97 + j.val).toUInt8)] by decide +kernel) ⟨j, h⟩
theorem lowTo_hit (b : UInt8) (j : Nat) (h : j < 26) (he : (((((⟨#[65, 66, 67, 68, 69, 70, 71, 72, 73, 74, 75, 76, 77, 78, 79, 80, 81, 82, 83, 84, 85, 86, 87, 88, 89, 90]⟩ : ByteArray)[j]'h).toNat : Nat) : Int) == (b.toNat : Int)) = true) :
    ((⟨#[97, 98, 99, 100, 101, 102, 103, 104, 105, 106, 107, 108, 109, 110, 111, 112, 113, 114, 115, 116, 117, 118, 119, 120, 121, 122]⟩ : ByteArray).extract j (j + 1)).data.toList = [lowTo b (j + 1)] := by
  rw [caps_at j h] at he
  have hb : b.toNat = 65 + j := by have := beq_iff_eq.1 he; omega
  rw [lits_at j h]
  unfold lowTo
  rw [if_pos (by omega)]
  have : (97 + j).toUInt8 = b + 32 := by
    apply UInt8.toNat_inj.1
    rw [UInt8.toNat_add, hb]
    simp
    omega
  rw [this]
theorem lowTo_miss (b : UInt8) (j : Nat) (h : j < 26) (he : (((((⟨#[65, 66, 67, 68, 69, 70, 71, 72, 73, 74, 75, 76, 77, 78, 79, 80, 81, 82, 83, 84, 85, 86, 87, 88, 89, 90]⟩ : ByteArray)[j]'h).toNat : Nat) : Int) == (b.toNat : Int)) = false) :
    lowTo b (j + 1) = lowTo b j := by
  rw [caps_at j h] at he
  have hb : ¬ b.toNat = 65 + j := by have := beq_eq_false_iff_ne.1 he; omega
  unfold lowTo
  by_cases hc : 65 ≤ b.toNat ∧ b.toNat < 65 + j
  · rw [if_pos hc, if_pos (by omega)]
  · rw [if_neg hc, if_neg (by omega)]
theorem lowTo_zero (b : UInt8) : lowTo b 0 = b := by unfold lowTo; rw [if_neg (by omega)]
theorem one_at (s : ByteArray) (k : Nat) (h : k < s.size) : (s.extract k (k + 1)).data.toList = [s[k]] := by
  rw [Lib.extract_data, show k + 1 - k = 1 by omega, List.drop_eq_getElem_cons (by simpa using h)]
  rfl
theorem lower_snoc (l : List UInt8) (b : UInt8) : lower (l ++ [b]) = lower l ++ [lowB b] := by simp [lower]
theorem lower_length (l : List UInt8) : (lower l).length = l.length := by simp [lower]
theorem data_append (a b : ByteArray) : (a ++ b).data.toList = a.data.toList ++ b.data.toList := by simp
theorem str_eq {x : ByteArray} {l : List UInt8} (h : x.data.toList = l) : x = ⟨l.toArray⟩ := by
  obtain ⟨⟨m⟩⟩ := x
  simp only at h
  rw [h]
theorem size_of_list {x : ByteArray} {l : List UInt8} (h : x.data.toList = l) : x.size = l.length := by rw [← h, len_list]

/-- the digits to the base 16 -/
def hexs : List UInt8 := [48, 49, 50, 51, 52, 53, 54, 55, 56, 57, 97, 98, 99, 100, 101, 102]
theorem hexs_at (j : Nat) (h : j < 16) : ((⟨#[48, 49, 50, 51, 52, 53, 54, 55, 56, 57, 97, 98, 99, 100, 101, 102]⟩ : ByteArray).extract j (j + 1)).data.toList = [hexs.getD j 0] :=
  (show ∀ j : Fin 16, ((⟨#[48, 49, 50, 51, 52, 53, 54, 55, 56, 57, 97, 98, 99, 100, 101, 102]⟩ : ByteArray).extract j.val (j.val + 1)).data.toList = [hexs.getD j.val 0] by decide +kernel) ⟨j, h⟩
theorem hexs_hit (b : UInt8) (j : Nat) (h : j < 16) (he : lowB b = hexs.getD j 0) : hex b.toNat = j := by
  have hb := b.toNat_lt
  have := (show ∀ (n : Fin 256) (j : Fin 16), lowB n.val.toUInt8 = hexs.getD j.val 0 → hex ((n.val.toUInt8).toNat : Int) = (j.val : Int) by decide +kernel) ⟨b.toNat, hb⟩ ⟨j, h⟩
  have e : b.toNat.toUInt8 = b := by simp
  simp only [e] at this
  exact this he
theorem hexs_miss (b : UInt8) (he : ∀ j, j < 16 → lowB b ≠ hexs.getD j 0) : hex b.toNat = -1 := by
  have hb := b.toNat_lt
  have := (show ∀ (n : Fin 256), (∀ j : Fin 16, lowB n.val.toUInt8 ≠ hexs.getD j.val 0) → hex ((n.val.toUInt8).toNat : Int) = -1 by decide +kernel) ⟨b.toNat, hb⟩
  have e : b.toNat.toUInt8 = b := by simp
  simp only [e] at this
  exact this fun j => he j.val j.isLt
theorem piece_eq (b : UInt8) (j : Nat) (h : j < 16) : ([lowB b] == ((⟨#[48, 49, 50, 51, 52, 53, 54, 55, 56, 57, 97, 98, 99, 100, 101, 102]⟩ : ByteArray).extract j (j + 1)).toList) = decide (lowB b = hexs.getD j 0) := by
  rw [Lib.toList_data, hexs_at j h]
  by_cases e : lowB b = hexs.getD j 0
  · rw [e]; simp
  · rw [decide_eq_false e]; exact beq_eq_false_iff_ne.2 (fun h => e (by simpa using h))
theorem lower_one (b : UInt8) : (⟨(lower [b]).toArray⟩ : ByteArray) = ⟨#[lowB b]⟩ := rfl
theorem digits_one (c : Int) : oneOf c [48, 49, 50, 51, 52, 53, 54, 55, 56, 57] = digit c := by
  unfold oneOf digit
  simp only [List.any_cons, List.any_nil, Bool.or_false]
  by_cases h : 48 ≤ c ∧ c ≤ 57
  · rw [decide_eq_true h.1, decide_eq_true h.2]
    have : c = 48 ∨ c = 49 ∨ c = 50 ∨ c = 51 ∨ c = 52 ∨ c = 53 ∨ c = 54 ∨ c = 55 ∨ c = 56 ∨ c = 57 := by omega
    rcases this with rfl | rfl | rfl | rfl | rfl | rfl | rfl | rfl | rfl | rfl <;> decide
  · have e : (decide (48 ≤ c) && decide (c ≤ 57)) = false := by
      by_cases h1 : 48 ≤ c
      · rw [decide_eq_false (show ¬ c ≤ 57 from fun h2 => h ⟨h1, h2⟩)]; simp
      · rw [decide_eq_false h1]; rfl
    rw [e]
    have hn : ∀ n : Nat, 48 ≤ n → n ≤ 57 → ((n : Int) == c) = false := fun n a b => beq_eq_false_iff_ne.2 (by omega)
    simp only [Bool.or_eq_false_iff]
    refine ⟨?_, ?_, ?_, ?_, ?_, ?_, ?_, ?_, ?_, ?_⟩ <;> exact hn _ (by decide) (by decide)
theorem dig10 (b : UInt8) : dig 10 b = digit b.toNat := by
  have hb := b.toNat_lt
  have := byteAll (p := fun c => (decide (0 ≤ hex c) && decide (hex c < 10)) == digit c) (by decide +kernel) b.toNat (by omega) (by omega)
  exact beq_iff_eq.1 this
theorem dig16 (b : UInt8) : dig 16 b = decide (0 ≤ hex b.toNat) := by
  have := hex_byte b
  unfold dig
  rw [decide_eq_true (show hex b.toNat < 16 by omega)]; simp

end Go.Proofs.YtdclmpdjjkjfjaaGreatDoor.Ch

/- Plain laws of lines in bytes, with no program in them: the line at the beginning of bytes, as the document's own answer has it. -/
namespace Go.Proofs.YtdclmpdjjkjfjaaGreatDoor.Ln

/-- what is told of the line at the beginning of bytes: its text, how many bytes it has with its end, is there one, a code -/
structure Told where
  text : List UInt8
  size : Nat
  ended : Bool
  code : Nat
def open_ : Told := ⟨[], 0, false, 0⟩
def fails (i c : Nat) : Told := ⟨[], i, false, c⟩
/-- from the place i on, t being what is left there -/
def go (l : List UInt8) : Nat → List UInt8 → Told
  | _, [] => open_
  | i, c :: t =>
    if c = 13 then
      match t with
      | [] => open_
      | d :: _ => if d = 10 then ⟨l.take i, i + 2, true, 0⟩ else fails (i + 2) 2
    else if c = 10 then fails (i + 1) 2
    else if Ch.visible c.toNat = false then fails (i + 1) 3
    else if i = 200 then fails (i + 1) 4
    else go l (i + 1) t
def of (l : List UInt8) : Told := go l 0 l

theorem go_end (l : List UInt8) (i : Nat) (h : l.length ≤ i) : go l i (l.drop i) = open_ := by
  rw [List.drop_eq_nil_of_le h]; rfl
theorem go_at (l : List UInt8) (i : Nat) (h : i < l.length) : go l i (l.drop i) =
    if l[i] = 13 then
      (if h2 : i + 1 < l.length then (if l[i + 1] = 10 then ⟨l.take i, i + 2, true, 0⟩ else fails (i + 2) 2) else open_)
    else if l[i] = 10 then fails (i + 1) 2
    else if Ch.visible l[i].toNat = false then fails (i + 1) 3
    else if i = 200 then fails (i + 1) 4
    else go l (i + 1) (l.drop (i + 1)) := by
  rw [List.drop_eq_getElem_cons h]
  show (if l[i] = 13 then _ else _) = _
  by_cases h13 : l[i] = 13
  · rw [if_pos h13, if_pos h13]
    by_cases h2 : i + 1 < l.length
    · rw [dif_pos h2, List.drop_eq_getElem_cons h2]
    · rw [dif_neg h2, List.drop_eq_nil_of_le (by omega)]
  · rw [if_neg h13, if_neg h13]
end Go.Proofs.YtdclmpdjjkjfjaaGreatDoor.Ln

/- Plain laws of lines that come byte by byte, with no program in them: what a reader keeps, what it answers, and that this is what is told of all that came since the last line's end. -/
namespace Go.Proofs.YtdclmpdjjkjfjaaGreatDoor.Ln

/-- what a reader of lines keeps: what came of a line, did its CR come, a code -/
structure St where
  line : List UInt8
  ending : Bool
  code : Nat
def start : St := ⟨[], false, 0⟩
/-- the code of a byte behind what came -/
def fault (s : St) (c : UInt8) : Nat :=
  if s.ending = (c == 10) then (if c = 13 ∨ c = 10 then 0 else if Ch.visible c.toNat = false then 3 else if 200 ≤ s.line.length then 4 else 0) else 2
/-- behind a byte: what is kept -/
def next (s : St) (c : UInt8) : St :=
  if s.code ≠ 0 then s
  else if fault s c ≠ 0 then { s with code := fault s c }
  else if c = 10 then ⟨[], false, 0⟩
  else if c = 13 then { s with ending := true }
  else { s with line := s.line ++ [c] }
/-- the line that a byte ends -/
def text (s : St) (c : UInt8) : List UInt8 := if s.code = 0 ∧ fault s c = 0 ∧ c = 10 then s.line else []
/-- does a byte end a line? -/
def ends (s : St) (c : UInt8) : Bool := decide (s.code = 0 ∧ fault s c = 0 ∧ c = 10)
def begun (s : St) : Bool := s.ending || decide (0 < s.line.length)
/-- what came since the last line's end -/
def came (s : St) : List UInt8 := s.line ++ (if s.ending then [13] else [])
/-- what a reader that told no code keeps is so -/
structure Good (s : St) : Prop where
  seen : ∀ b ∈ s.line, Ch.visible b.toNat = true
  short : s.line.length ≤ 200
theorem Good.start : Good start := ⟨fun b h => by simp [Ln.start] at h, by simp [Ln.start]⟩
theorem not13 : Ch.visible (13 : UInt8).toNat = false := by decide
theorem not10 : Ch.visible (10 : UInt8).toNat = false := by decide
theorem next_good {s : St} {c : UInt8} (h : Good s) : Good (next s c) := by
  unfold next
  split
  · exact h
  · split
    · exact ⟨h.seen, h.short⟩
    · split
      · exact Good.start
      · split
        · exact ⟨h.seen, h.short⟩
        · rename_i _ hf h10 h13
          have hf : fault s c = 0 := by omega
          unfold fault at hf
          split at hf
          · split at hf
            · rename_i hc; rcases hc with e | e <;> contradiction
            · split at hf
              · omega
              · split at hf
                · omega
                · rename_i _ _ hv hl
                  refine ⟨fun b hb => ?_, by simp; omega⟩
                  simp at hb
                  rcases hb with hb | rfl
                  · exact h.seen b hb
                  · cases hh : Ch.visible (b.toNat : Int)
                    · exact absurd hh hv
                    · rfl
          · omega
/-- bytes of a line are passed by -/
theorem go_skip (l : List UInt8) (n : Nat) (hn : n ≤ l.length) (h2 : n ≤ 200) (hv : ∀ b ∈ l.take n, Ch.visible b.toNat = true) : of l = go l n (l.drop n) := by
  induction n with
  | zero => rfl
  | succ n ih =>
    have hlt : n < l.length := by omega
    have hm : l[n] ∈ l.take (n + 1) := by
      rw [List.take_succ_eq_append_getElem hlt]; exact List.mem_append_right _ (List.mem_singleton.2 rfl)
    have hx := hv _ hm
    rw [ih (by omega) (by omega) (fun b hb => hv b (by
      rw [List.take_succ_eq_append_getElem hlt]; exact List.mem_append_left _ hb)), go_at l n hlt]
    rw [if_neg (fun e => by rw [e, not13] at hx; cases hx), if_neg (fun e => by rw [e, not10] at hx; cases hx), if_neg (by rw [hx]; simp), if_neg (by omega)]
/-- what is told of all that came since the last line's end is what is answered -/
theorem of_came {s : St} (h : Good s) (hc : s.code = 0) (c : UInt8) :
    (of (came s ++ [c])).text = text s c ∧ (of (came s ++ [c])).ended = ends s c ∧ (of (came s ++ [c])).code = (next s c).code ∧ (ends s c = true → (of (came s ++ [c])).size = (came s).length + 1) := by
  have hn13 := not13
  have e : of (came s ++ [c]) = go (came s ++ [c]) s.line.length ((came s ++ [c]).drop s.line.length) := by
    refine go_skip _ _ (by unfold came; simp) h.short (fun b hb => ?_)
    unfold came at hb
    rw [List.append_assoc, List.take_left] at hb
    exact h.seen b hb
  rw [e]
  cases he : s.ending
  · have e2 : came s ++ [c] = s.line ++ [c] := by unfold came; rw [he]; simp
    rw [e2, List.drop_left]
    have e3 : came s = s.line := by unfold came; rw [he]; simp
    rw [e3]
    show _ ∧ _ ∧ _ ∧ _
    unfold go
    by_cases h13 : c = 13
    · subst h13
      have hf : fault s 13 = 0 := by unfold fault; rw [he]; rfl
      simp [text, ends, next, hf, hc, open_]
    · rw [if_neg h13]
      by_cases h10 : c = 10
      · subst h10
        have hf : fault s 10 = 2 := by unfold fault; rw [he]; rfl
        simp [text, ends, next, hf, hc, fails]
      · rw [if_neg h10]
        have hq : s.ending = (c == 10) := by rw [he]; exact (beq_eq_false_iff_ne.2 h10).symm
        have hno : ¬ (c = 13 ∨ c = 10) := by rintro (e | e) <;> contradiction
        by_cases hv : Ch.visible c.toNat = false
        · have hf : fault s c = 3 := by unfold fault; rw [if_pos hq, if_neg hno, if_pos hv]
          rw [if_pos hv]
          simp [text, ends, next, hf, hc, fails]
        · rw [if_neg hv]
          by_cases h2 : s.line.length = 200
          · have hf : fault s c = 4 := by unfold fault; rw [if_pos hq, if_neg hno, if_neg hv, if_pos (by omega)]
            rw [if_pos h2]
            simp [text, ends, next, hf, hc, fails]
          · have hs := h.short
            have hf : fault s c = 0 := by unfold fault; rw [if_pos hq, if_neg hno, if_neg hv, if_neg (by omega)]
            rw [if_neg h2]
            simp [text, ends, next, hf, hc, h10, h13, go, open_]
  · have e2 : came s ++ [c] = s.line ++ [13, c] := by unfold came; rw [he]; simp
    have e3 : (came s).length = s.line.length + 1 := by unfold came; rw [he]; simp
    rw [e2, List.drop_left, e3]
    unfold go
    rw [if_pos rfl]
    by_cases h10 : c = 10
    · subst h10
      have hf : fault s 10 = 0 := by unfold fault; rw [he]; rfl
      simp [text, ends, next, hf, hc]
    · have hf : fault s c = 2 := by
        unfold fault; rw [he, if_neg (by rw [beq_eq_false_iff_ne.2 h10]; simp)]
      simp [text, ends, next, hf, hc, h10, fails]
/-- what came grows by the byte, or a line ended -/
theorem came_next {s : St} {c : UInt8} (hc : s.code = 0) (hn : (next s c).code = 0) : came (next s c) = if ends s c then [] else came s ++ [c] := by
  unfold next at hn ⊢
  rw [if_neg (by omega)] at hn ⊢
  by_cases hf : fault s c = 0
  · rw [if_neg (by omega)] at hn ⊢
    by_cases h10 : c = 10
    · subst h10
      have : ends s 10 = true := by unfold ends; simp [hc, hf]
      rw [this]; rfl
    · have hE : ends s c = false := by unfold ends; simp [h10]
      rw [if_neg h10, hE]
      have he : s.ending = false := by
        unfold fault at hf
        cases hh : s.ending
        · rfl
        · rw [hh, if_neg (by rw [beq_eq_false_iff_ne.2 h10]; simp)] at hf; omega
      by_cases h13 : c = 13
      · subst h13
        rw [if_pos rfl]; unfold came; rw [he]; simp
      · rw [if_neg h13]; unfold came; simp [he]
  · rw [if_pos hf] at hn; exact absurd hn hf
theorem begun_came (s : St) : begun s = decide (0 < (came s).length) := by
  unfold begun came
  cases s.ending <;> simp
/-- with a code no line ends -/
theorem ends_code {s : St} {c : UInt8} (h : (next s c).code ≠ 0) : ends s c = false := by
  cases hE : ends s c
  · rfl
  · unfold ends at hE
    rw [decide_eq_true_eq] at hE
    obtain ⟨h0, hf, rfl⟩ := hE
    exact absurd (by unfold next; rw [if_neg (by omega), hf]; rfl) h
/-- behind a code it is told again -/
theorem again {s : St} (c : UInt8) (h : s.code ≠ 0) : next s c = s ∧ text s c = [] ∧ ends s c = false := by
  refine ⟨by unfold next; rw [if_pos h], by unfold text; rw [if_neg (fun e => h e.1)], by unfold ends; simp [h]⟩
end Go.Proofs.YtdclmpdjjkjfjaaGreatDoor.Ln

/- Plain laws of lines: the line at the beginning of bytes is told by its own bytes alone; a reader that is fed them. -/
namespace Go.Proofs.YtdclmpdjjkjfjaaGreatDoor.Ln

theorem go_size (l : List UInt8) : ∀ (t : List UInt8) (i : Nat), (go l i t).size = 0 ∨ i < (go l i t).size
  | [], i => Or.inl rfl
  | c :: t, i => by
    unfold go
    split
    · split
      · exact Or.inl rfl
      · split
        · right; show i < i + 2; omega
        · right; show i < i + 2; omega
    · split
      · right; show i < i + 1; omega
      · split
        · right; show i < i + 1; omega
        · split
          · right; show i < i + 1; omega
          · rcases go_size l t (i + 1) with h | h
            · exact Or.inl h
            · right; omega
theorem go_le (l : List UInt8) : ∀ (d i : Nat), l.length - i = d → i ≤ l.length → (go l i (l.drop i)).size ≤ l.length := by
  intro d
  induction d with
  | zero =>
    intro i hd hi
    rw [go_end l i (by omega)]
    exact Nat.zero_le _
  | succ d ih =>
    intro i hd hi
    have hlt : i < l.length := by omega
    rw [go_at l i hlt]
    split
    · split
      · split
        · show i + 2 ≤ _; omega
        · show i + 2 ≤ _; omega
      · exact Nat.zero_le _
    · split
      · show i + 1 ≤ _; omega
      · split
        · show i + 1 ≤ _; omega
        · split
          · show i + 1 ≤ _; omega
          · exact ih (i + 1) (by omega) (by omega)
theorem of_le (l : List UInt8) : (of l).size ≤ l.length := go_le l _ 0 rfl (Nat.zero_le _)
/-- its beginning tells it, or nothing yet -/
theorem go_take (l : List UInt8) (k : Nat) (hk : k ≤ l.length) : ∀ (d i : Nat), l.length - i = d → i ≤ k →
    go (l.take k) i ((l.take k).drop i) = if 0 < (go l i (l.drop i)).size ∧ (go l i (l.drop i)).size ≤ k then go l i (l.drop i) else open_ := by
  intro d
  induction d with
  | zero =>
    intro i hd hi
    rw [go_end l i (by omega), go_end (l.take k) i (by rw [List.length_take]; omega), if_neg (fun h => by have := h.1; simp [open_] at this)]
  | succ d ih =>
    intro i hd hi
    have hlt : i < l.length := by omega
    by_cases hik : i = k
    · subst hik
      rw [go_end (l.take i) i (by rw [List.length_take]; omega)]
      rw [if_neg]
      rintro ⟨h1, h2⟩
      rcases go_size l (l.drop i) i with h | h <;> omega
    · have hlk : (l.take k).length = k := by rw [List.length_take]; omega
      have hi2 : i < (l.take k).length := by omega
      have e0 : (l.take k)[i] = l[i] := by simp
      have et : (l.take k).take i = l.take i := by rw [List.take_take, Nat.min_eq_left (by omega)]
      rw [go_at (l.take k) i hi2, go_at l i hlt, e0]
      by_cases h13 : l[i] = 13
      · rw [if_pos h13, if_pos h13]
        by_cases h2 : i + 1 < k
        · have h2l : i + 1 < (l.take k).length := by omega
          have h2l' : i + 1 < l.length := by omega
          have e1 : (l.take k)[i + 1] = l[i + 1] := by simp
          rw [dif_pos h2l, dif_pos h2l', e1, et]
          by_cases h10 : l[i + 1] = 10
          · rw [if_pos h10, if_pos ⟨by show 0 < i + 2; omega, by show i + 2 ≤ k; omega⟩]
          · rw [if_neg h10, if_pos ⟨by show 0 < i + 2; omega, by show i + 2 ≤ k; omega⟩]
        · rw [dif_neg (show ¬ i + 1 < (l.take k).length by omega)]
          by_cases h2l' : i + 1 < l.length
          · rw [dif_pos h2l']
            by_cases h10 : l[i + 1] = 10
            · rw [if_pos h10, if_neg (fun h => by have : i + 2 ≤ k := h.2; omega)]
            · rw [if_neg h10, if_neg (fun h => by have : i + 2 ≤ k := h.2; omega)]
          · rw [dif_neg h2l', if_neg (fun h => by have := h.1; simp [open_] at this)]
      · rw [if_neg h13, if_neg h13]
        by_cases h10 : l[i] = 10
        · rw [if_pos h10, if_pos h10, if_pos ⟨by show 0 < i + 1; omega, by show i + 1 ≤ k; omega⟩]
        · rw [if_neg h10, if_neg h10]
          by_cases hv : Ch.visible l[i].toNat = false
          · rw [if_pos hv, if_pos hv, if_pos ⟨by show 0 < i + 1; omega, by show i + 1 ≤ k; omega⟩]
          · rw [if_neg hv, if_neg hv]
            by_cases h2 : i = 200
            · rw [if_pos h2, if_pos h2, if_pos ⟨by show 0 < i + 1; omega, by show i + 1 ≤ k; omega⟩]
            · rw [if_neg h2, if_neg h2]
              exact ih (i + 1) (by omega) (by omega)
theorem of_take (l : List UInt8) (k : Nat) (hk : k ≤ l.length) : of (l.take k) = if 0 < (of l).size ∧ (of l).size ≤ k then of l else open_ := go_take l k hk _ 0 rfl (Nat.zero_le _)
/-- a reader that was fed bytes -/
def fold (s : St) (l : List UInt8) : St := l.foldl next s
theorem fold_snoc (s : St) (l : List UInt8) (c : UInt8) : fold s (l ++ [c]) = next (fold s l) c := by simp [fold]
theorem fold_came (l : List UInt8) : ∀ j, j ≤ l.length → ((of l).size = 0 ∨ j < (of l).size) → Good (fold start (l.take j)) ∧ (fold start (l.take j)).code = 0 ∧ came (fold start (l.take j)) = l.take j
  | 0, _, _ => ⟨Good.start, rfl, rfl⟩
  | j + 1, hj, hs => by
    obtain ⟨hg, hc, hcm⟩ := fold_came l j (by omega) (by omega)
    have hlt : j < l.length := by omega
    have e : l.take (j + 1) = l.take j ++ [l[j]] := List.take_succ_eq_append_getElem hlt
    have hoc := of_came hg hc l[j]
    rw [hcm, ← e, of_take l (j + 1) hj, if_neg (by omega)] at hoc
    obtain ⟨_, h2, h3, _⟩ := hoc
    have hE : ends (fold start (l.take j)) l[j] = false := h2.symm
    have hC : (next (fold start (l.take j)) l[j]).code = 0 := h3.symm
    rw [e, fold_snoc]
    refine ⟨next_good hg, hC, ?_⟩
    rw [came_next hc hC, hE, hcm]
    rfl
/-- a byte that ends nothing, and one that ends the line or tells a code -/
theorem fold_quiet (l : List UInt8) (j : Nat) (hj : j < l.length) (hs : (of l).size = 0 ∨ j + 1 < (of l).size) : ends (fold start (l.take j)) l[j] = false ∧ (next (fold start (l.take j)) l[j]).code = 0 := by
  obtain ⟨hg, hc, hcm⟩ := fold_came l j (by omega) (by omega)
  have e : l.take (j + 1) = l.take j ++ [l[j]] := List.take_succ_eq_append_getElem hj
  have hoc := of_came hg hc l[j]
  rw [hcm, ← e, of_take l (j + 1) (by omega), if_neg (by omega)] at hoc
  exact ⟨hoc.2.1.symm, hoc.2.2.1.symm⟩
theorem fold_last (l : List UInt8) (j : Nat) (hj : j < l.length) (hs : j + 1 = (of l).size) : ends (fold start (l.take j)) l[j] = (of l).ended ∧ (next (fold start (l.take j)) l[j]).code = (of l).code ∧ text (fold start (l.take j)) l[j] = (of l).text := by
  obtain ⟨hg, hc, hcm⟩ := fold_came l j (by omega) (by omega)
  have e : l.take (j + 1) = l.take j ++ [l[j]] := List.take_succ_eq_append_getElem hj
  have hoc := of_came hg hc l[j]
  rw [hcm, ← e, of_take l (j + 1) (by omega), if_pos (by omega)] at hoc
  exact ⟨hoc.2.1.symm, hoc.2.2.1.symm, hoc.1.symm⟩
theorem go_kind (l : List UInt8) : ∀ (t : List UInt8) (i : Nat), (go l i t).size = 0 ∨ ((go l i t).code = 0 ∧ (go l i t).ended = true) ∨ ((go l i t).code ≠ 0 ∧ (go l i t).ended = false)
  | [], i => Or.inl rfl
  | c :: t, i => by
    unfold go
    split
    · split
      · exact Or.inl rfl
      · split
        · exact Or.inr (Or.inl ⟨rfl, rfl⟩)
        · exact Or.inr (Or.inr ⟨by show 2 ≠ 0; omega, rfl⟩)
    · split
      · exact Or.inr (Or.inr ⟨by show 2 ≠ 0; omega, rfl⟩)
      · split
        · exact Or.inr (Or.inr ⟨by show 3 ≠ 0; omega, rfl⟩)
        · split
          · exact Or.inr (Or.inr ⟨by show 4 ≠ 0; omega, rfl⟩)
          · exact go_kind l t (i + 1)
theorem of_kind (l : List UInt8) : (of l).size = 0 ∨ ((of l).code = 0 ∧ (of l).ended = true) ∨ ((of l).code ≠ 0 ∧ (of l).ended = false) := go_kind l l 0
theorem go_open (l : List UInt8) : ∀ (t : List UInt8) (i : Nat), (go l i t).size = 0 → go l i t = open_
  | [], i, _ => rfl
  | c :: t, i, h => by
    unfold go at h ⊢
    split at h
    · rename_i h13
      rw [if_pos h13]
      split at h
      · rfl
      · split at h
        · exact absurd (show i + 2 = 0 from h) (by omega)
        · exact absurd (show i + 2 = 0 from h) (by omega)
    · rename_i h13
      rw [if_neg h13]
      split at h
      · exact absurd (show i + 1 = 0 from h) (by omega)
      · rename_i h10
        rw [if_neg h10]
        split at h
        · exact absurd (show i + 1 = 0 from h) (by omega)
        · rename_i hv
          rw [if_neg hv]
          split at h
          · exact absurd (show i + 1 = 0 from h) (by omega)
          · rename_i h2
            rw [if_neg h2]
            exact go_open l t (i + 1) h
theorem of_open (l : List UInt8) (h : (of l).size = 0) : of l = open_ := go_open l l 0 h
end Go.Proofs.YtdclmpdjjkjfjaaGreatDoor.Ln

/- Plain functions and laws: numbers as texts, blanks at both ends, small letters again. -/
namespace Go.Proofs.YtdclmpdjjkjfjaaGreatDoor.Ch

/-- a number in decimal, as far as its digits are at most f + 1 -/
def decF : Nat → Nat → List UInt8
  | 0, n => [(48 + n).toUInt8]
  | f + 1, n => if n < 10 then [(48 + n).toUInt8] else decF f (n / 10) ++ [(48 + n % 10).toUInt8]
/-- a number to the base 16 -/
def hexF : Nat → Nat → List UInt8
  | 0, n => [hexs.getD n 0]
  | f + 1, n => if n < 16 then [hexs.getD n 0] else hexF f (n / 16) ++ [hexs.getD (n % 16) 0]

theorem digs_at (j : Nat) (h : j < 10) : ((⟨#[48, 49, 50, 51, 52, 53, 54, 55, 56, 57]⟩ : ByteArray).extract j (j + 1)).data.toList = [(48 + j).toUInt8] :=
  (show ∀ j : Fin 10, ((⟨#[48, 49, 50, 51, 52, 53, 54, 55, 56, 57]⟩ : ByteArray).extract j.val (j.val + 1)).data.toList = [(48 + j.val).toUInt8] by decide +kernel) ⟨j, h⟩

theorem decF_length : ∀ f n, (decF f n).length ≤ f + 1 ∧ 1 ≤ (decF f n).length
  | 0, n => by simp [decF]
  | f + 1, n => by
    unfold decF
    split
    · simp
    · have := decF_length f (n / 10)
      simp; omega
theorem hexF_length : ∀ f n, (hexF f n).length ≤ f + 1 ∧ 1 ≤ (hexF f n).length
  | 0, n => by simp [hexF]
  | f + 1, n => by
    unfold hexF
    split
    · simp
    · have := hexF_length f (n / 16)
      simp; omega

theorem dec_dig (j : Nat) (h : j < 10) : dig 10 ((48 + j).toUInt8) = true ∧ hex ((48 + j).toUInt8).toNat = j :=
  (show ∀ j : Fin 10, dig 10 ((48 + j.val).toUInt8) = true ∧ hex ((48 + j.val).toUInt8).toNat = j.val by decide +kernel) ⟨j, h⟩
theorem hex_dig (j : Nat) (h : j < 16) : dig 16 (hexs.getD j 0) = true ∧ hex (hexs.getD j 0).toNat = j :=
  (show ∀ j : Fin 16, dig 16 (hexs.getD j.val 0) = true ∧ hex (hexs.getD j.val 0).toNat = j.val by decide +kernel) ⟨j, h⟩

theorem decF_num : ∀ f n, n < 10 ^ (f + 1) → (decF f n).all (dig 10) = true ∧ numOf 10 (decF f n) = n
  | 0, n, h => by
    have := dec_dig n (by simpa using h)
    simp only [decF, List.all_cons, List.all_nil, Bool.and_true, numOf, List.foldl_cons, List.foldl_nil]
    exact ⟨this.1, by rw [this.2]; omega⟩
  | f + 1, n, h => by
    unfold decF
    split
    · rename_i hn
      have := dec_dig n hn
      simp only [List.all_cons, List.all_nil, Bool.and_true, numOf, List.foldl_cons, List.foldl_nil]
      exact ⟨this.1, by rw [this.2]; omega⟩
    · have hq : n / 10 < 10 ^ (f + 1) := by
        rw [Nat.pow_succ] at h
        omega
      have ih := decF_num f (n / 10) hq
      have hr := dec_dig (n % 10) (by omega)
      rw [all_snoc, numOf_snoc, ih.1, ih.2, hr.1, hr.2]
      exact ⟨rfl, by omega⟩
theorem hexF_num : ∀ f n, n < 16 ^ (f + 1) → (hexF f n).all (dig 16) = true ∧ numOf 16 (hexF f n) = n
  | 0, n, h => by
    have := hex_dig n (by simpa using h)
    simp only [hexF, List.all_cons, List.all_nil, Bool.and_true, numOf, List.foldl_cons, List.foldl_nil]
    exact ⟨this.1, by rw [this.2]; omega⟩
  | f + 1, n, h => by
    unfold hexF
    split
    · rename_i hn
      have := hex_dig n hn
      simp only [List.all_cons, List.all_nil, Bool.and_true, numOf, List.foldl_cons, List.foldl_nil]
      exact ⟨this.1, by rw [this.2]; omega⟩
    · have hq : n / 16 < 16 ^ (f + 1) := by
        rw [Nat.pow_succ] at h
        omega
      have ih := hexF_num f (n / 16) hq
      have hr := hex_dig (n % 16) (by omega)
      rw [all_snoc, numOf_snoc, ih.1, ih.2, hr.1, hr.2]
      exact ⟨rfl, by omega⟩

theorem hexF_small (f n : Nat) (h : n < 16) : hexF f n = [hexs.getD n 0] := by
  cases f with
  | zero => rfl
  | succ f => unfold hexF; rw [if_pos h]
theorem hexF_succ (f n : Nat) (h : ¬ n < 16) : (hexF f (n / 16)) ++ (hexF f (n % 16)) = hexF (f + 1) n := by
  rw [hexF_small f (n % 16) (by omega)]
  conv => rhs; unfold hexF
  rw [if_neg h]

/-- a number's text is the number -/
theorem number_dec (n : Nat) (h : n < 1000000000) : number 10 9 (decF 8 n) = ((n : Int), true) := by
  have hl := decF_length 8 n
  have hn := decF_num 8 n (by simpa using h)
  rw [number_yes _ _ _ (by intro e; rw [e] at hl; simp at hl) (by omega) hn.1, hn.2]
theorem number_hex (n : Nat) (h : n < 16777216) : number 16 6 (hexF 5 n) = ((n : Int), true) := by
  have hl := hexF_length 5 n
  have hn := hexF_num 5 n (by simpa using h)
  rw [number_yes _ _ _ (by intro e; rw [e] at hl; simp at hl) (by omega) hn.1, hn.2]

theorem lowB_no (b : UInt8) (h : capital b.toNat = false) : lowB b = b := by
  unfold lowB lowTo
  rw [if_neg]
  intro hc
  unfold capital at h
  rw [decide_eq_true (by omega), decide_eq_true (by omega)] at h
  cases h
theorem lowB_yes (b : UInt8) (h : capital b.toNat = true) : ((lowB b).toNat : Int) = b.toNat - 65 + 97 := by
  unfold capital at h
  rw [Bool.and_eq_true, decide_eq_true_eq, decide_eq_true_eq] at h
  unfold lowB lowTo
  rw [if_pos (by omega), UInt8.toNat_add]
  have : (32 : UInt8).toNat = 32 := rfl
  rw [this]
  omega

/-- small letters again change nothing -/
theorem lowB_again (b : UInt8) : lowB (lowB b) = lowB b := by
  have hb := b.toNat_lt
  have := (show ∀ n : Fin 256, lowB (lowB n.val.toUInt8) = lowB n.val.toUInt8 by decide +kernel) ⟨b.toNat, hb⟩
  have e : b.toNat.toUInt8 = b := by simp
  simpa only [e] using this
theorem lower_again (l : List UInt8) : lower (lower l) = lower l := by
  simp only [lower, List.map_map]
  exact List.map_congr_left fun b _ => lowB_again b
theorem lowB_token (b : UInt8) : token (lowB b).toNat = token b.toNat := by
  have hb := b.toNat_lt
  have := (show ∀ n : Fin 256, token (lowB n.val.toUInt8).toNat = token (n.val.toUInt8).toNat by decide +kernel) ⟨b.toNat, hb⟩
  have e : b.toNat.toUInt8 = b := by simp
  simpa only [e] using this
theorem lower_token (l : List UInt8) : isToken (lower l) = isToken l := by
  unfold isToken lower
  rw [List.all_map]
  congr 1
  · simp
  · congr 1
    funext b
    exact lowB_token b

/-- blanks and tabs at both ends, from whichever end -/
theorem rdrop_cons (p : UInt8 → Bool) (a : UInt8) (t : List UInt8) :
    ((a :: t).reverse.dropWhile p).reverse = if ((t.reverse.dropWhile p).reverse) = [] then (if p a then [] else [a]) else a :: (t.reverse.dropWhile p).reverse := by
  rw [List.reverse_cons, List.dropWhile_append]
  by_cases h : (t.reverse.dropWhile p) = []
  · rw [h]
    simp [List.dropWhile]
    cases p a <;> simp
  · have h1 : (List.dropWhile p t.reverse).isEmpty = false := by
      cases h2 : List.dropWhile p t.reverse with
      | nil => exact absurd h2 h
      | cons _ _ => rfl
    rw [h1]
    simp [h]
theorem drop_both (p : UInt8 → Bool) : ∀ l : List UInt8, (((l.dropWhile p).reverse.dropWhile p).reverse) = ((l.reverse.dropWhile p).reverse).dropWhile p
  | [] => rfl
  | a :: t => by
    rw [rdrop_cons]
    cases hp : p a
    · rw [List.dropWhile_cons, hp]
      simp only [Bool.false_eq_true, if_false]
      rw [rdrop_cons]
      split <;> simp [hp]
    · rw [List.dropWhile_cons, hp]
      simp only [if_true]
      rw [drop_both p t]
      split
      · rename_i h
        rw [h]
      · rw [List.dropWhile_cons, hp]
        simp
def ws : List UInt8 := [32, 9]
theorem trim_both (l : List UInt8) : Lib.trimRightS (Lib.trimLeftS l ws) ws = Lib.trimS l ws := drop_both (ws.contains ·) l
theorem ws_eq (b : UInt8) : ws.contains b = (((b.toNat : Int) == 32) || ((b.toNat : Int) == 9)) := by
  have hb := b.toNat_lt
  have := (show ∀ n : Fin 256, ws.contains n.val.toUInt8 = ((((n.val.toUInt8).toNat : Int) == 32) || (((n.val.toUInt8).toNat : Int) == 9)) by decide +kernel) ⟨b.toNat, hb⟩
  have e : b.toNat.toUInt8 = b := by simp
  simpa only [e] using this
theorem head_list (x : ByteArray) (h : 0 < x.size) : x.data.toList = x[0] :: x.data.toList.drop 1 := by
  have := List.drop_eq_getElem_cons (l := x.data.toList) (i := 0) (by simpa using h)
  rw [List.drop_zero] at this
  exact this
theorem last_list (x : ByteArray) (h : 0 < x.size) : x.data.toList = x.data.toList.take (x.size - 1) ++ [x[x.size - 1]] := by
  have := take_snoc x (x.size - 1) (by omega)
  rw [← this, take_all x _ (by omega)]
theorem left_step (x : ByteArray) (h : 0 < x.size) (hp : ws.contains x[0] = true) : Lib.trimLeftS (x.data.toList.drop 1) ws = Lib.trimLeftS x.data.toList ws := by
  unfold Lib.trimLeftS
  conv => rhs; rw [head_list x h, List.dropWhile_cons, hp]
  rfl
theorem left_stop (x : ByteArray) (hp : ∀ h : 0 < x.size, ws.contains (x[0]'h) = false) : Lib.trimLeftS x.data.toList ws = x.data.toList := by
  unfold Lib.trimLeftS
  by_cases h : 0 < x.size
  · rw [head_list x h, List.dropWhile_cons, hp h]
    rfl
  · obtain rfl := empty_eq x (by omega)
    rfl
theorem right_step (x : ByteArray) (h : 0 < x.size) (hp : ws.contains (x[x.size - 1]'(by omega)) = true) : Lib.trimRightS (x.data.toList.take (x.size - 1)) ws = Lib.trimRightS x.data.toList ws := by
  unfold Lib.trimRightS
  conv => rhs; rw [last_list x h, List.reverse_append, List.reverse_cons, List.reverse_nil, List.nil_append, List.singleton_append, List.dropWhile_cons, hp]
  rfl
theorem right_stop (x : ByteArray) (hp : ∀ h : 0 < x.size, ws.contains (x[x.size - 1]'(by omega)) = false) : Lib.trimRightS x.data.toList ws = x.data.toList := by
  unfold Lib.trimRightS
  by_cases h : 0 < x.size
  · rw [last_list x h, List.reverse_append, List.reverse_cons, List.reverse_nil, List.nil_append, List.singleton_append, List.dropWhile_cons, hp h]
    simp
  · obtain rfl := empty_eq x (by omega)
    rfl

end Go.Proofs.YtdclmpdjjkjfjaaGreatDoor.Ch

/- Plain laws of a head's fields, with no program in them: a field out of a line, a line out of a field, as the document's own answer has them. -/
namespace Go.Proofs.YtdclmpdjjkjfjaaGreatDoor.Fd

/-- where a byte stands first; the length: nowhere -/
def at_ (c : UInt8) (l : List UInt8) : Nat := l.findIdx (· == c)
theorem at_le (c : UInt8) (l : List UInt8) : at_ c l ≤ l.length := List.findIdx_le_length
theorem at_here {c : UInt8} {l : List UInt8} (h : at_ c l < l.length) : l[at_ c l] = c := by
  have := List.findIdx_getElem (w := h)
  exact beq_iff_eq.1 this
theorem at_first {c : UInt8} {l : List UInt8} {j : Nat} (h : j < at_ c l) (hj : j < l.length) : l[j] ≠ c := by
  have := List.not_of_lt_findIdx h
  intro e
  exact absurd (beq_iff_eq.2 e) (by simpa using this)
theorem at_none {c : UInt8} {l : List UInt8} (h : ∀ j (hj : j < l.length), l[j] ≠ c) : at_ c l = l.length := by
  rcases Nat.lt_or_ge (at_ c l) l.length with g | g
  · exact absurd (at_here g) (h _ g)
  · exact Nat.le_antisymm (at_le c l) g
theorem at_is {c : UInt8} {l : List UInt8} {k : Nat} (hk : k < l.length) (h : l[k] = c) (hf : ∀ j (hj : j < k), l[j] ≠ c) : at_ c l = k := by
  rcases Nat.lt_trichotomy (at_ c l) k with g | g | g
  · exact absurd (at_here (Nat.lt_trans g hk)) (hf _ g)
  · exact g
  · exact absurd h (at_first g hk)

/-- a field, and a code -/
structure Told where
  name : List UInt8
  value : List UInt8
  code : Nat
def bad (c : Nat) : Told := ⟨[], [], c⟩
/-- a field out of a line -/
def of (l : List UInt8) : Told :=
  if at_ 58 l = l.length then bad 5
  else if Ch.isToken (l.take (at_ 58 l)) = false then bad 6
  else if 40 < at_ 58 l then bad 4
  else if Ch.isVisible (l.drop (at_ 58 l + 1)) = false then bad 3
  else ⟨l.take (at_ 58 l), Lib.trimS (l.drop (at_ 58 l + 1)) Ch.ws, 0⟩
/-- a line out of a field: its text, and a code -/
def text (n v : List UInt8) : List UInt8 × Nat :=
  if Ch.isToken n = false then ([], 6)
  else if 40 < n.length ∨ 200 < n.length + 2 + v.length then ([], 4)
  else if Ch.isVisible v = false ∨ Lib.trimS v Ch.ws ≠ v then ([], 3)
  else (n ++ [58, 32] ++ v, 0)
end Go.Proofs.YtdclmpdjjkjfjaaGreatDoor.Fd

/- Plain laws of a body in chunks, with no program in them: what the document's own answer tells of all bytes, and a reader byte by byte. -/
namespace Go.Proofs.YtdclmpdjjkjfjaaGreatDoor.Ck

/-- what is told of bytes: what of the body came, how many bytes it took, is it over, a code -/
structure Told where
  body : List UInt8
  used : Nat
  over : Bool
  code : Nat
/-- a chunk's size, out of its line -/
def size (t : List UInt8) : Int × Bool := Ch.number 16 6 (Lib.trimS (t.take (Fd.at_ 59 t)) Ch.ws)
/-- lines behind the last chunk, n of them were there; f: at most so many rounds -/
def trail : Nat → List UInt8 → Nat → Told
  | 0, _, _ => ⟨[], 0, false, 0⟩
  | f + 1, l, n =>
    if (Ln.of l).code ≠ 0 ∨ (Ln.of l).ended = false then ⟨[], (Ln.of l).size, false, (Ln.of l).code⟩
    else if (Ln.of l).text = [] then ⟨[], (Ln.of l).size, true, 0⟩
    else if n = 16 then ⟨[], (Ln.of l).size, false, 8⟩
    else if (Fd.of (Ln.of l).text).code ≠ 0 then ⟨[], (Ln.of l).size, false, (Fd.of (Ln.of l).text).code⟩
    else let r := trail f (l.drop (Ln.of l).size) (n + 1); ⟨r.body, (Ln.of l).size + r.used, r.over, r.code⟩
/-- chunks, n bytes of the body were there -/
def go : Nat → List UInt8 → Nat → Told
  | 0, _, _ => ⟨[], 0, false, 0⟩
  | f + 1, l, n =>
    if (Ln.of l).code ≠ 0 ∨ (Ln.of l).ended = false then ⟨[], (Ln.of l).size, false, (Ln.of l).code⟩
    else if (size (Ln.of l).text).2 = false then ⟨[], (Ln.of l).size, false, 7⟩
    else if 4000 < n + (size (Ln.of l).text).1.toNat then ⟨[], (Ln.of l).size, false, 4⟩
    else if (size (Ln.of l).text).1.toNat = 0 then
      let r := trail (f + 1) (l.drop (Ln.of l).size) 0; ⟨r.body, (Ln.of l).size + r.used, r.over, r.code⟩
    else
      let k := (size (Ln.of l).text).1.toNat
      let d := l.drop (Ln.of l).size
      if d.length < k then ⟨d, (Ln.of l).size + d.length, false, 0⟩
      else
        let e := d.drop k
        if (Ln.of e).code ≠ 0 ∨ (Ln.of e).ended = false then ⟨d.take k, (Ln.of l).size + k + (Ln.of e).size, false, (Ln.of e).code⟩
        else if (Ln.of e).text ≠ [] then ⟨d.take k, (Ln.of l).size + k + (Ln.of e).size, false, 5⟩
        else let r := go f (e.drop (Ln.of e).size) (n + k); ⟨d.take k ++ r.body, (Ln.of l).size + k + (Ln.of e).size + r.used, r.over, r.code⟩
def of (l : List UInt8) : Told := go (l.length + 1) l 0

/-- what a reader keeps: where it stands (0 at a size, 1 in a chunk's bytes, 2 behind them, 3 behind the last chunk, 4 at the end), its line, how many bytes are left of a chunk, how many there are of the body, how many fields came, a code -/
structure St where
  ph : Nat
  ln : Ln.St
  left : Nat
  total : Nat
  count : Nat
  code : Nat
def start : St := ⟨0, Ln.start, 0, 0, 0, 0⟩
/-- behind a line's end -/
def line (s : St) (t : List UInt8) : St :=
  if s.ph = 0 then
    (if (size t).2 = false then { s with code := 7 }
     else if 4000 < s.total + (size t).1.toNat then { s with code := 4 }
     else if (size t).1.toNat = 0 then { s with ph := 3 }
     else { s with ph := 1, left := (size t).1.toNat, total := s.total + (size t).1.toNat })
  else if s.ph = 2 then (if t ≠ [] then { s with code := 5 } else { s with ph := 0 })
  else if t = [] then { s with ph := 4 }
  else if s.count = 16 then { s with code := 8 }
  else if (Fd.of t).code ≠ 0 then { s with code := (Fd.of t).code }
  else { s with count := s.count + 1 }
/-- behind a byte -/
def next (s : St) (c : UInt8) : St :=
  if s.code ≠ 0 then s
  else if s.ph = 4 then { s with code := 18 }
  else if s.ph = 1 then { s with left := s.left - 1, ph := if s.left ≤ 1 then 2 else 1 }
  else if (Ln.next s.ln c).code ≠ 0 then { s with code := (Ln.next s.ln c).code }
  else if Ln.ends s.ln c = true then line { s with ln := Ln.start } (Ln.text s.ln c)
  else { s with ln := Ln.next s.ln c }
/-- what a byte brings of the body -/
def out (s : St) (c : UInt8) : List UInt8 := if s.code = 0 ∧ s.ph = 1 then [c] else []
/-- what is told, byte by byte, to the first code or the end -/
def run : St → List UInt8 → Told
  | _, [] => ⟨[], 0, false, 0⟩
  | s, c :: t =>
    if (next s c).code ≠ 0 then ⟨out s c, 1, false, (next s c).code⟩
    else if (next s c).ph = 4 then ⟨out s c, 1, true, 0⟩
    else ⟨out s c ++ (run (next s c) t).body, 1 + (run (next s c) t).used, (run (next s c) t).over, (run (next s c) t).code⟩
/-- the same, but for how many bytes where nothing was told -/
structure Same (a b : Told) : Prop where
  body : a.body = b.body
  over : a.over = b.over
  code : a.code = b.code
  used : (a.code ≠ 0 ∨ a.over = true) → a.used = b.used
theorem Same.refl (a : Told) : Same a a := ⟨rfl, rfl, rfl, fun _ => rfl⟩
/-- behind some bytes -/
def shift (x : List UInt8) (k : Nat) (r : Told) : Told := ⟨x ++ r.body, k + r.used, r.over, r.code⟩
theorem Same.shift {a b : Told} (h : Same a b) (x : List UInt8) (k : Nat) : Same (Ck.shift x k a) (Ck.shift x k b) :=
  ⟨by simp [Ck.shift, h.body], h.over, h.code, fun e => by show k + a.used = k + b.used; rw [h.used e]⟩
theorem shift_shift (x y : List UInt8) (j k : Nat) (r : Told) : shift x j (shift y k r) = shift (x ++ y) (j + k) r := by
  simp [shift, Nat.add_assoc]
theorem run_quiet {s : St} {c : UInt8} (t : List UInt8) (h1 : (next s c).code = 0) (h2 : (next s c).ph ≠ 4) : run s (c :: t) = shift (out s c) 1 (run (next s c) t) := by
  rw [run, if_neg (by omega), if_neg h2]; rfl
/-- at a line -/
structure AtLine (s : St) : Prop where
  code : s.code = 0
  ph : s.ph = 0 ∨ s.ph = 2 ∨ s.ph = 3
  ln : s.ln = Ln.start
theorem next_in {s : St} {x : Ln.St} (h : AtLine s) (c : UInt8) (hq : Ln.ends x c = false) (hc : (Ln.next x c).code = 0) : next { s with ln := x } c = { s with ln := Ln.next x c } := by
  have h1 := h.code
  have h2 := h.ph
  unfold next
  rw [if_neg (by simpa using h1), if_neg (by show ¬ s.ph = 4; omega), if_neg (by show ¬ s.ph = 1; omega), if_neg (by simpa using hc), if_neg (by simp [hq])]
theorem out_in {s : St} {x : Ln.St} (h : AtLine s) (c : UInt8) : out { s with ln := x } c = [] := by
  have h2 := h.ph
  unfold out
  rw [if_neg (fun e => by have : s.ph = 1 := e.2; omega)]
/-- the bytes of a line bring nothing -/
theorem run_line {s : St} (h : AtLine s) (l : List UInt8) : ∀ j, j ≤ l.length → ((Ln.of l).size = 0 ∨ j < (Ln.of l).size) → run s l = shift [] j (run { s with ln := Ln.fold Ln.start (l.take j) } (l.drop j))
  | 0, _, _ => by
    have e : { s with ln := Ln.fold Ln.start (l.take 0) } = s := by
      have := h.ln
      cases s
      simp only at this
      subst this
      rfl
    rw [e]
    simp [shift]
  | j + 1, hj, hs => by
    have hlt : j < l.length := by omega
    rw [run_line h l j (by omega) (by omega), List.drop_eq_getElem_cons hlt]
    obtain ⟨hE, hC⟩ := Ln.fold_quiet l j hlt (by omega)
    have hn := next_in h l[j] hE hC
    have h1 := h.code
    have h2 := h.ph
    rw [run_quiet _ (by rw [hn]; exact h1) (by rw [hn]; show s.ph ≠ 4; omega), out_in h, hn, shift_shift, List.nil_append, List.take_succ_eq_append_getElem hlt, Ln.fold_snoc]
/-- no line yet -/
theorem run_open {s : St} (h : AtLine s) (l : List UInt8) (ho : (Ln.of l).size = 0) : (run s l).body = [] ∧ (run s l).over = false ∧ (run s l).code = 0 := by
  rw [run_line h l l.length (Nat.le_refl _) (Or.inl ho), List.drop_length]
  exact ⟨rfl, rfl, rfl⟩
/-- a line, or a code -/
theorem run_told {s : St} (h : AtLine s) (l : List UInt8) (ho : 0 < (Ln.of l).size) : run s l =
    if (Ln.of l).code ≠ 0 then ⟨[], (Ln.of l).size, false, (Ln.of l).code⟩
    else if (line s (Ln.of l).text).code ≠ 0 then ⟨[], (Ln.of l).size, false, (line s (Ln.of l).text).code⟩
    else if (line s (Ln.of l).text).ph = 4 then ⟨[], (Ln.of l).size, true, 0⟩
    else shift [] (Ln.of l).size (run (line s (Ln.of l).text) (l.drop (Ln.of l).size)) := by
  obtain ⟨j, hj⟩ : ∃ j, (Ln.of l).size = j + 1 := ⟨(Ln.of l).size - 1, by omega⟩
  have hle := Ln.of_le l
  have hlt : j < l.length := by omega
  have h1 := h.code
  have h2 := h.ph
  obtain ⟨hE, hC, hT⟩ := Ln.fold_last l j hlt hj.symm
  have hsl : { s with ln := Ln.start } = s := by
    have := h.ln
    cases s
    simp only at this
    subst this
    rfl
  have hn : next { s with ln := Ln.fold Ln.start (l.take j) } l[j] = if (Ln.of l).code ≠ 0 then { s with ln := Ln.fold Ln.start (l.take j), code := (Ln.of l).code } else line s (Ln.of l).text := by
    unfold next
    rw [if_neg (by simpa using h1), if_neg (by show ¬ s.ph = 4; omega), if_neg (by show ¬ s.ph = 1; omega)]
    show (if (Ln.next (Ln.fold Ln.start (l.take j)) l[j]).code ≠ 0 then _ else if Ln.ends (Ln.fold Ln.start (l.take j)) l[j] = true then line { s with ln := Ln.start } (Ln.text (Ln.fold Ln.start (l.take j)) l[j]) else _) = _
    rw [hC]
    by_cases hc : (Ln.of l).code = 0
    · have hcn : ¬ (Ln.of l).code ≠ 0 := by omega
      rw [if_neg hcn, if_neg hcn, hE, hT, hsl]
      rcases Ln.of_kind l with hk | hk | hk
      · omega
      · rw [if_pos hk.2]
      · exact absurd hc hk.1
    · rw [if_pos hc, if_pos hc]
  rw [run_line h l j (by omega) (Or.inr (by omega)), List.drop_eq_getElem_cons hlt, run, hn, out_in h, hj]
  by_cases hc : (Ln.of l).code = 0
  · have hcn : ¬ (Ln.of l).code ≠ 0 := by omega
    simp only [if_neg hcn]
    by_cases hlc : (line s (Ln.of l).text).code = 0
    · have hln : ¬ (line s (Ln.of l).text).code ≠ 0 := by omega
      simp only [if_neg hln]
      by_cases h4 : (line s (Ln.of l).text).ph = 4
      · rw [if_pos h4, if_pos h4]; simp [shift]
      · rw [if_neg h4, if_neg h4]; simp [shift, Nat.add_assoc]
    · rw [if_pos hlc, if_pos hlc]; simp [shift]
  · rw [if_pos hc]
    rw [if_pos (show ({ s with ln := Ln.fold Ln.start (l.take j), code := (Ln.of l).code } : St).code ≠ 0 from hc), if_pos hc]
    simp [shift]
/-- in a chunk's bytes -/
theorem run_bytes (s : St) (h0 : s.code = 0) : ∀ (k : Nat) (l : List UInt8), run { s with ph := 1, left := k + 1 } l =
    if l.length < k + 1 then ⟨l, l.length, false, 0⟩ else shift (l.take (k + 1)) (k + 1) (run { s with ph := 2, left := 0 } (l.drop (k + 1)))
  | k, [] => by rw [if_pos (by simp)]; rfl
  | k, c :: t => by
    have ho : out { s with ph := 1, left := k + 1 } c = [c] := by unfold out; rw [if_pos ⟨h0, rfl⟩]
    cases k with
    | zero =>
      have hn : next { s with ph := 1, left := 0 + 1 } c = { s with ph := 2, left := 0 } := by
        unfold next
        rw [if_neg (by simpa using h0), if_neg (by show ¬ 1 = 4; omega), if_pos rfl]
        rfl
      rw [run_quiet t (by rw [hn]; exact h0) (by rw [hn]; show 2 ≠ 4; omega), ho, hn, if_neg (by simp)]
      rfl
    | succ k =>
      have hn : next { s with ph := 1, left := k + 1 + 1 } c = { s with ph := 1, left := k + 1 } := by
        unfold next
        rw [if_neg (by simpa using h0), if_neg (by show ¬ 1 = 4; omega), if_pos rfl]
        show ({ s with ph := if k + 1 + 1 ≤ 1 then 2 else 1, left := k + 1 + 1 - 1 } : St) = _
        rw [if_neg (by omega)]
        rfl
      rw [run_quiet t (by rw [hn]; exact h0) (by rw [hn]; show 1 ≠ 4; omega), ho, hn, run_bytes s h0 k t]
      by_cases hl : t.length < k + 1
      · rw [if_pos hl, if_pos (by simp; omega)]
        simp [shift]; omega
      · rw [if_neg hl, if_neg (by simp; omega), shift_shift]
        have e : k + 1 + 1 = (k + 1) + 1 := rfl
        rw [e, List.take_succ_cons, List.drop_succ_cons, Nat.add_comm 1 (k + 1)]
        rfl
end Go.Proofs.YtdclmpdjjkjfjaaGreatDoor.Ck

/- Plain: uploads, as a spool keeps them, step by step; and what always holds of them. -/
namespace Go.Proofs.YtdclmpdjjkjfjaaGreatDoor.Sp

/-- an upload -/
structure Up where
  id : Int
  size : Int
  note : ByteArray
  bytes : List UInt8
  sent : Int
/-- a spool: its uploads by their numbers, and the number that was given last -/
structure St where
  l : List Up
  last : Int
def new : St := ⟨[], 0⟩
def used : List Up → Nat
  | [] => 0
  | u :: t => u.bytes.length + used t
/-- where an upload stands -/
def place : List Up → Int → Option Nat
  | [], _ => none
  | u :: t, id => if u.id = id then some 0 else (place t id).map (· + 1)
/-- a step at an upload that there is, or the code 10 -/
def atUp (s : St) (id : Int) (f : Nat → Up → St × Nat) : St × Nat :=
  match place s.l id with
  | none => (s, 10)
  | some i => match s.l[i]? with
    | none => (s, 10)
    | some u => f i u
def create (s : St) (size : Int) (m : ByteArray) : St × Int × Nat :=
  if size < -1 then (s, 0, 1) else if 2000 < size ∨ 100 < m.size then (s, 0, 4) else if Ch.isVisible m.data.toList = false ∨ Lib.trimS m.data.toList Ch.ws ≠ m.data.toList then (s, 0, 3) else if 12 ≤ s.l.length then (s, 0, 8)
  else (⟨s.l ++ [⟨s.last + 1, size, m, [], 0⟩], s.last + 1⟩, s.last + 1, 0)
def append (s : St) (id off : Int) (b : List UInt8) : St × Nat := atUp s id fun i u =>
  if u.sent ≠ 0 then (s, 19) else if off ≠ u.bytes.length then (s, 17) else if 2000 < u.bytes.length + b.length ∨ (0 ≤ u.size ∧ u.size < u.bytes.length + b.length) then (s, 4) else if 6000 < used s.l + b.length then (s, 16)
  else (⟨s.l.set i { u with bytes := u.bytes ++ b }, s.last⟩, 0)
def declare (s : St) (id size : Int) : St × Nat := atUp s id fun i u =>
  if 0 ≤ u.size then (s, 18) else if size < 0 then (s, 1) else if 2000 < size ∨ size < u.bytes.length then (s, 4)
  else (⟨s.l.set i { u with size := size }, s.last⟩, 0)
def drop (s : St) (id : Int) : St × Nat := atUp s id fun i _ => (⟨s.l.eraseIdx i, s.last⟩, 0)
def begins (s : St) (id : Int) : St × Nat := atUp s id fun i u =>
  if u.sent ≠ 0 then (s, 19) else if u.size ≠ u.bytes.length then (s, 14) else (⟨s.l.set i { u with sent := 1 }, s.last⟩, 0)
def ends (s : St) (id : Int) : St × Nat := atUp s id fun i u =>
  if u.sent ≠ 1 then (s, 19) else (⟨s.l.set i { u with sent := 2 }, s.last⟩, 0)

/-- what holds of an upload -/
structure UpOk (last : Int) (u : Up) : Prop where
  low : 1 ≤ u.id
  high : u.id ≤ last
  size0 : -1 ≤ u.size
  size1 : u.size ≤ 2000
  long : u.bytes.length ≤ 2000
  fits : 0 ≤ u.size → u.bytes.length ≤ u.size
  sent0 : 0 ≤ u.sent
  sent2 : u.sent ≤ 2
  whole : u.sent ≠ 0 → u.size = u.bytes.length
  note : u.note.size ≤ 100
/-- what holds of a spool, whatever was asked of it -/
structure Ok (s : St) : Prop where
  few : s.l.length ≤ 12
  quota : used s.l ≤ 6000
  last0 : 0 ≤ s.last
  rise : (s.l.map (·.id)).Pairwise (· < ·)
  all : ∀ u ∈ s.l, UpOk s.last u
theorem Ok.new : Ok new := ⟨by simp [Sp.new], by simp [Sp.new, used], by simp [Sp.new], by simp [Sp.new], fun u h => by simp [Sp.new] at h⟩
theorem used_append : ∀ a b : List Up, used (a ++ b) = used a + used b
  | [], b => by simp [used]
  | u :: t, b => by rw [List.cons_append, used, used, used_append t b]; omega
theorem used_set : ∀ (l : List Up) (i : Nat) (u v : Up), l[i]? = some u → used (l.set i v) + u.bytes.length = used l + v.bytes.length
  | [], i, u, v, h => by simp at h
  | x :: t, 0, u, v, h => by
    have h : x = u := by simpa using h
    subst h
    rw [List.set_cons_zero, used, used]; omega
  | x :: t, i + 1, u, v, h => by
    have := used_set t i u v (by simpa using h)
    rw [List.set_cons_succ, used, used]; omega
theorem used_erase : ∀ (l : List Up) (i : Nat), used (l.eraseIdx i) ≤ used l
  | [], i => by simp [used]
  | x :: t, 0 => by rw [List.eraseIdx_cons_zero, used]; omega
  | x :: t, i + 1 => by have := used_erase t i; rw [List.eraseIdx_cons_succ, used, used]; omega
theorem place_at : ∀ (l : List Up) (id : Int) (i : Nat), place l id = some i → ∃ u, l[i]? = some u ∧ u.id = id
  | [], id, i, h => by cases h
  | x :: t, id, i, h => by
    rw [place] at h
    split at h
    · rename_i hx; injection h with h; subst h; exact ⟨x, rfl, hx⟩
    · cases hp : place t id with
      | none => rw [hp] at h; cases h
      | some j =>
        rw [hp] at h
        injection h with h
        obtain ⟨u, h1, h2⟩ := place_at t id j hp
        subst h
        exact ⟨u, by simpa using h1, h2⟩
/-- an upload turned in its place -/
theorem Ok.set {s : St} (h : Ok s) {i : Nat} {u v : Up} (hu : s.l[i]? = some u) (hid : v.id = u.id) (hv : UpOk s.last v) (hq : used s.l + v.bytes.length ≤ 6000 + u.bytes.length) : Ok ⟨s.l.set i v, s.last⟩ := by
  refine ⟨by simpa using h.few, ?_, h.last0, ?_, fun x hx => ?_⟩
  · have := used_set s.l i u v hu
    show used (s.l.set i v) ≤ 6000
    omega
  · have : (s.l.set i v).map (·.id) = s.l.map (·.id) := by
      rw [List.map_set, hid]
      refine List.ext_getElem? fun k => ?_
      rw [List.getElem?_set]
      split
      · rename_i e
        subst e
        split
        · rw [List.getElem?_map, hu]; rfl
        · rename_i hk
          rw [List.getElem?_eq_none (by omega)]
      · rfl
    show ((s.l.set i v).map (·.id)).Pairwise (· < ·)
    rw [this]; exact h.rise
  · rcases List.mem_or_eq_of_mem_set hx with hx | hx
    · exact h.all x hx
    · subst hx; exact hv
theorem Ok.at_ {s : St} (h : Ok s) {id : Int} {f : Nat → Up → St × Nat} (hf : ∀ i u, s.l[i]? = some u → Ok (f i u).1) : Ok (atUp s id f).1 := by
  unfold atUp
  split
  · exact h
  · split
    · exact h
    · rename_i i hi _ u hu; exact hf i u hu
theorem Ok.create {s : St} (h : Ok s) (size : Int) (m : ByteArray) : Ok (create s size m).1 := by
  unfold Sp.create
  split
  · exact h
  · split
    · exact h
    · split
      · exact h
      · split
        · exact h
        · rename_i h1 h2 _ h4
          have hl := h.last0
          refine ⟨by simp; omega, ?_, by show 0 ≤ s.last + 1; omega, ?_, fun u hu => ?_⟩
          · show used (s.l ++ [_]) ≤ 6000
            rw [used_append]
            have := h.quota
            simp [used]; omega
          · show ((s.l ++ [(⟨s.last + 1, size, m, [], 0⟩ : Up)]).map (·.id)).Pairwise (· < ·)
            rw [List.map_append, List.pairwise_append]
            refine ⟨h.rise, by simp, fun a ha b hb => ?_⟩
            obtain ⟨u, hu, rfl⟩ := List.mem_map.1 ha
            have := (h.all u hu).high
            simp at hb
            subst hb
            show u.id < s.last + 1
            omega
          · rcases List.mem_append.1 hu with hu | hu
            · have := h.all u hu
              exact ⟨this.low, by have := this.high; show u.id ≤ s.last + 1; omega, this.size0, this.size1, this.long, this.fits, this.sent0, this.sent2, this.whole, this.note⟩
            · rw [List.mem_singleton.1 hu]
              exact ⟨by show 1 ≤ s.last + 1; omega, Int.le_refl _, by show -1 ≤ size; omega, by show size ≤ 2000; omega, by simp, fun e => by simpa using e, by simp, by simp, fun e => absurd rfl e, by show m.size ≤ 100; omega⟩
theorem Ok.append {s : St} (h : Ok s) (id off : Int) (b : List UInt8) : Ok (append s id off b).1 := by
  refine h.at_ fun i u hu => ?_
  have hk := h.all u (List.mem_of_getElem? hu)
  have hq := h.quota
  split
  · exact h
  · split
    · exact h
    · split
      · exact h
      · split
        · exact h
        · rename_i h1 h2 h3 h4
          refine h.set hu rfl ⟨hk.low, hk.high, hk.size0, hk.size1, by simp; omega, fun e => ?_, hk.sent0, hk.sent2, fun e => absurd e (by simpa using h1), hk.note⟩ (by simp; omega)
          have e' : 0 ≤ u.size := e
          simp only [List.length_append]
          omega
theorem Ok.declare {s : St} (h : Ok s) (id size : Int) : Ok (declare s id size).1 := by
  refine h.at_ fun i u hu => ?_
  have hk := h.all u (List.mem_of_getElem? hu)
  have hq := h.quota
  split
  · exact h
  · split
    · exact h
    · split
      · exact h
      · rename_i h1 h2 h3
        refine h.set hu rfl ⟨hk.low, hk.high, by show -1 ≤ size; omega, by show size ≤ 2000; omega, hk.long, fun _ => by show (u.bytes.length : Int) ≤ size; omega, hk.sent0, hk.sent2, fun e => ?_, hk.note⟩ (by show used s.l + u.bytes.length ≤ _; omega)
        have := hk.whole e
        omega
theorem Ok.drop {s : St} (h : Ok s) (id : Int) : Ok (drop s id).1 := by
  refine h.at_ fun i u hu => ?_
  refine ⟨Nat.le_trans (List.length_eraseIdx_le ..) h.few, Nat.le_trans (used_erase s.l i) h.quota, h.last0, ?_, fun x hx => h.all x (List.mem_of_mem_eraseIdx hx)⟩
  show ((s.l.eraseIdx i).map (·.id)).Pairwise (· < ·)
  exact h.rise.sublist ((List.eraseIdx_sublist s.l i).map _)
theorem Ok.begins {s : St} (h : Ok s) (id : Int) : Ok (begins s id).1 := by
  refine h.at_ fun i u hu => ?_
  have hk := h.all u (List.mem_of_getElem? hu)
  have hq := h.quota
  split
  · exact h
  · split
    · exact h
    · rename_i h1 h2
      exact h.set hu rfl ⟨hk.low, hk.high, hk.size0, hk.size1, hk.long, hk.fits, by simp, by simp, fun _ => by simpa using h2, hk.note⟩ (by show used s.l + u.bytes.length ≤ _; omega)
theorem Ok.ends {s : St} (h : Ok s) (id : Int) : Ok (ends s id).1 := by
  refine h.at_ fun i u hu => ?_
  have hk := h.all u (List.mem_of_getElem? hu)
  have hq := h.quota
  split
  · exact h
  · rename_i h1
    have h1' : u.sent = 1 := by simpa using h1
    exact h.set hu rfl ⟨hk.low, hk.high, hk.size0, hk.size1, hk.long, hk.fits, by simp, by simp, fun _ => hk.whole (by rw [h1']; decide), hk.note⟩ (by show used s.l + u.bytes.length ≤ _; omega)
end Go.Proofs.YtdclmpdjjkjfjaaGreatDoor.Sp

/- Plain: uploads: where one stands, how many bytes all have, as loops find it. -/
namespace Go.Proofs.YtdclmpdjjkjfjaaGreatDoor.Sp

theorem used_take (l : List Up) (k : Nat) (h : k < l.length) : used (l.take (k + 1)) = used (l.take k) + l[k].bytes.length := by
  rw [List.take_succ_eq_append_getElem h, used_append]
  simp [used]
theorem used_le (l : List Up) (k : Nat) : used (l.take k) ≤ used l := by
  conv => rhs; rw [← List.take_append_drop k l, used_append]
  omega
theorem used_one (l : List Up) (k : Nat) (h : k < l.length) : l[k].bytes.length ≤ used l := by
  have h1 := used_take l k h
  have h2 := used_le l (k + 1)
  omega
theorem place_of : ∀ (l : List Up) (id : Int) (k : Nat) (h : k < l.length), l[k].id = id → (∀ u ∈ l.take k, u.id ≠ id) → place l id = some k
  | x :: t, id, 0, _, e, _ => by rw [place, if_pos (by simpa using e)]
  | x :: t, id, k + 1, h, e, hn => by
    rw [place, if_neg (hn x (by simp)), place_of t id k (by simpa using h) (by simpa using e) (fun u hu => hn u (by simp [hu]))]
    rfl
theorem place_no : ∀ (l : List Up) (id : Int), (∀ u ∈ l, u.id ≠ id) → place l id = none
  | [], _, _ => rfl
  | x :: t, id, hn => by
    rw [place, if_neg (hn x (by simp)), place_no t id (fun u hu => hn u (by simp [hu]))]
    rfl
theorem place_lt {l : List Up} {id : Int} {i : Nat} (h : place l id = some i) : i < l.length := by
  obtain ⟨u, hu, _⟩ := place_at l id i h
  exact (List.getElem?_eq_some_iff.1 hu).1
theorem atUp_none {s : St} {id : Int} {f : Nat → Up → St × Nat} (h : place s.l id = none) : atUp s id f = (s, 10) := by
  unfold atUp; rw [h]
theorem atUp_some {s : St} {id : Int} {f : Nat → Up → St × Nat} {i : Nat} (h : place s.l id = some i) : atUp s id f = f i (s.l[i]'(place_lt h)) := by
  unfold atUp; rw [h]
  simp only [List.getElem?_eq_getElem (place_lt h)]
/-- where an upload stands, as a number: -1: there is none -/
def pl (l : List Up) (id : Int) : Int := match place l id with
  | none => -1
  | some i => i
theorem pl_none {l : List Up} {id : Int} (h : place l id = none) : pl l id = -1 := by unfold pl; rw [h]
theorem pl_some {l : List Up} {id : Int} {i : Nat} (h : place l id = some i) : pl l id = i := by unfold pl; rw [h]
theorem last_le_create (s : St) (size : Int) (m : ByteArray) : (create s size m).1.last ≤ s.last + 1 := by
  unfold create
  split
  · show s.last ≤ _; omega
  · split
    · show s.last ≤ _; omega
    · split
      · show s.last ≤ _; omega
      · split
        · show s.last ≤ _; omega
        · exact Int.le_refl _
theorem last_atUp (s : St) (id : Int) (f : Nat → Up → St × Nat) (hf : ∀ i u, (f i u).1.last = s.last) : (atUp s id f).1.last = s.last := by
  unfold atUp
  split
  · rfl
  · split
    · rfl
    · exact hf _ _
theorem last_append (s : St) (id off : Int) (b : List UInt8) : (append s id off b).1.last = s.last := last_atUp s id _ fun i u => by
  split
  · rfl
  · split
    · rfl
    · split
      · rfl
      · split <;> rfl
theorem last_declare (s : St) (id size : Int) : (declare s id size).1.last = s.last := last_atUp s id _ fun i u => by
  split
  · rfl
  · split
    · rfl
    · split <;> rfl
theorem last_drop (s : St) (id : Int) : (drop s id).1.last = s.last := last_atUp s id _ fun _ _ => rfl
theorem last_begins (s : St) (id : Int) : (begins s id).1.last = s.last := last_atUp s id _ fun i u => by
  split
  · rfl
  · split <;> rfl
theorem last_ends (s : St) (id : Int) : (ends s id).1.last = s.last := last_atUp s id _ fun i u => by
  split <;> rfl
/-- the steps at an upload, by themselves -/
def appF (s : St) (off : Int) (b : List UInt8) (i : Nat) (u : Up) : St × Nat :=
  if u.sent ≠ 0 then (s, 19) else if off ≠ u.bytes.length then (s, 17) else if 2000 < u.bytes.length + b.length ∨ (0 ≤ u.size ∧ u.size < u.bytes.length + b.length) then (s, 4) else if 6000 < used s.l + b.length then (s, 16)
  else (⟨s.l.set i { u with bytes := u.bytes ++ b }, s.last⟩, 0)
def decF (s : St) (size : Int) (i : Nat) (u : Up) : St × Nat :=
  if 0 ≤ u.size then (s, 18) else if size < 0 then (s, 1) else if 2000 < size ∨ size < u.bytes.length then (s, 4)
  else (⟨s.l.set i { u with size := size }, s.last⟩, 0)
def drpF (s : St) (i : Nat) (_ : Up) : St × Nat := (⟨s.l.eraseIdx i, s.last⟩, 0)
def begF (s : St) (i : Nat) (u : Up) : St × Nat :=
  if u.sent ≠ 0 then (s, 19) else if u.size ≠ u.bytes.length then (s, 14) else (⟨s.l.set i { u with sent := 1 }, s.last⟩, 0)
def endF (s : St) (i : Nat) (u : Up) : St × Nat :=
  if u.sent ≠ 1 then (s, 19) else (⟨s.l.set i { u with sent := 2 }, s.last⟩, 0)
theorem append_F (s : St) (id off : Int) (b : List UInt8) : append s id off b = atUp s id (appF s off b) := rfl
theorem declare_F (s : St) (id size : Int) : declare s id size = atUp s id (decF s size) := rfl
theorem drop_F (s : St) (id : Int) : drop s id = atUp s id (drpF s) := rfl
theorem begins_F (s : St) (id : Int) : begins s id = atUp s id (begF s) := rfl
theorem ends_F (s : St) (id : Int) : ends s id = atUp s id (endF s) := rfl
end Go.Proofs.YtdclmpdjjkjfjaaGreatDoor.Sp

/- Plain laws of values with parameters, with no program in them: blanks and words at a place of a text. -/
namespace Go.Proofs.YtdclmpdjjkjfjaaGreatDoor.Pm

def blank (c : UInt8) : Bool := c == 32 || c == 9
def tok (c : UInt8) : Bool := Ch.token c.toNat
/-- how many bytes from i on are such -/
def run (p : UInt8 → Bool) (l : List UInt8) (i : Nat) : Nat := ((l.drop i).takeWhile p).length
theorem run_step {p : UInt8 → Bool} {l : List UInt8} {i : Nat} (h : i < l.length) (hp : p l[i] = true) : run p l i = 1 + run p l (i + 1) := by
  unfold run
  rw [List.drop_eq_getElem_cons h, List.takeWhile_cons, hp]
  simp only [if_true, List.length_cons]
  omega
theorem run_stop {p : UInt8 → Bool} {l : List UInt8} {i : Nat} (h : i < l.length) (hp : p l[i] = false) : run p l i = 0 := by
  unfold run
  rw [List.drop_eq_getElem_cons h, List.takeWhile_cons, hp]
  rfl
theorem run_end (p : UInt8 → Bool) {l : List UInt8} {i : Nat} (h : l.length ≤ i) : run p l i = 0 := by
  unfold run
  rw [List.drop_eq_nil_of_le h]; rfl
theorem run_le (p : UInt8 → Bool) (l : List UInt8) (i : Nat) (h : i ≤ l.length) : i + run p l i ≤ l.length := by
  unfold run
  have := (List.takeWhile_prefix (l := l.drop i) p).length_le
  rw [List.length_drop] at this
  omega
/-- where the blanks end -/
def blanks (l : List UInt8) (i : Nat) : Nat := i + run blank l i
/-- how many bytes a word has -/
def word (l : List UInt8) (i : Nat) : Nat := run tok l i
end Go.Proofs.YtdclmpdjjkjfjaaGreatDoor.Pm

/- Plain laws of values with parameters, with no program in them: a value out of its text. -/
namespace Go.Proofs.YtdclmpdjjkjfjaaGreatDoor.Pm

theorem drop_run (p : UInt8 → Bool) (l : List UInt8) (i : Nat) : l.drop (i + run p l i) = (l.drop i).dropWhile p := by
  unfold run
  rw [← List.drop_drop]
  generalize l.drop i = t
  induction t with
  | nil => rfl
  | cons a t ih =>
    rw [List.takeWhile_cons, List.dropWhile_cons]
    cases p a
    · rfl
    · simpa using ih
theorem take_run (p : UInt8 → Bool) (l : List UInt8) (i : Nat) : (l.drop i).take (run p l i) = (l.drop i).takeWhile p := by
  unfold run
  generalize l.drop i = t
  induction t with
  | nil => rfl
  | cons a t ih =>
    rw [List.takeWhile_cons]
    cases p a
    · rfl
    · simpa using ih
/-- a name and a value -/
abbrev Par := List UInt8 × List UInt8
/-- a value that stands in quotes, behind the first of them; nothing: no quote comes -/
def quo : List UInt8 → List UInt8 → Option (List UInt8 × List UInt8)
  | _, [] => none
  | acc, c :: t => if c = 34 then some (acc, t) else if c = 92 then (match t with
      | [] => none
      | d :: t' => quo (acc ++ [d]) t') else quo (acc ++ [c]) t
theorem quo_nil (acc : List UInt8) : quo acc [] = none := by unfold quo; rfl
theorem quo_end (acc t : List UInt8) : quo acc (34 :: t) = some (acc, t) := by unfold quo; rw [if_pos rfl]
theorem quo_back_nil (acc : List UInt8) : quo acc [92] = none := by unfold quo; rw [if_neg (by decide), if_pos rfl]
theorem quo_back (acc : List UInt8) (d : UInt8) (t : List UInt8) : quo acc (92 :: d :: t) = quo (acc ++ [d]) t := by rw [quo, if_neg (by decide), if_pos rfl]
theorem quo_byte (acc : List UInt8) (c : UInt8) (t : List UInt8) (h1 : c ≠ 34) (h2 : c ≠ 92) : quo acc (c :: t) = quo (acc ++ [c]) t := by rw [quo.eq_def]; simp only []; rw [if_neg h1, if_neg h2]
theorem quo_short (n : Nat) : ∀ (acc t v r : List UInt8), t.length ≤ n → quo acc t = some (v, r) → r.length < t.length ∧ v.length ≤ acc.length + t.length := by
  induction n with
  | zero =>
    intro acc t v r h e
    obtain rfl : t = [] := List.eq_nil_of_length_eq_zero (by omega)
    rw [quo_nil] at e; cases e
  | succ n ih =>
    intro acc t v r h e
    cases t with
    | nil => rw [quo_nil] at e; cases e
    | cons c t =>
      by_cases h1 : c = 34
      · subst h1
        rw [quo_end] at e
        injection e with e; injection e with e1 e2
        subst e1; subst e2
        simp
      · by_cases h2 : c = 92
        · subst h2
          cases t with
          | nil => rw [quo_back_nil] at e; cases e
          | cons d t =>
            rw [quo_back] at e
            have := ih _ _ _ _ (by simp at h ⊢; omega) e
            simp at this ⊢; omega
        · rw [quo_byte _ _ _ h1 h2] at e
          have := ih _ _ _ _ (by simp at h ⊢; omega) e
          simp at this ⊢; omega
/-- the value of a parameter, behind its =: a code, or it and what is left -/
def val (r : List UInt8) : Nat ⊕ (List UInt8 × List UInt8) :=
  if r.head? = some 34 then (match quo [] r.tail with
    | none => .inl 14
    | some x => .inr x)
  else if r.takeWhile tok = [] then .inl 5 else .inr (r.takeWhile tok, r.dropWhile tok)
/-- one parameter, from its ; on: a code, or it and what is left -/
def par (r : List UInt8) : Nat ⊕ (Par × List UInt8) :=
  if r.head? = some 59 then
    let r2 := r.tail.dropWhile blank
    if r2.takeWhile tok = [] then .inl 5
    else if (r2.dropWhile tok).head? = some 61 then (match val (r2.dropWhile tok).tail with
      | .inl c => .inl c
      | .inr x => .inr ((Ch.lower (r2.takeWhile tok), x.1), x.2))
    else .inl 5
  else .inl 5
/-- all parameters; n: at most so many rounds -/
def pars : Nat → List UInt8 → List Par → Nat ⊕ List Par
  | 0, _, acc => .inr acc
  | n + 1, r, acc =>
    if r.dropWhile blank = [] then .inr acc
    else match par (r.dropWhile blank) with
      | .inl c => .inl c
      | .inr x => if acc.any (fun q => q.1 == x.1.1) then .inl 9 else if acc.length = 8 then .inl 8 else pars n x.2 (acc ++ [x.1])
/-- a value's word: a code, or it and what is left -/
def wrd (l : List UInt8) : Nat ⊕ (List UInt8 × List UInt8) :=
  let r := l.dropWhile blank
  if r.takeWhile tok = [] then .inl 5
  else if (r.dropWhile tok).head? = some 47 then
    (if (r.dropWhile tok).tail.takeWhile tok = [] then .inl 5
     else .inr (Ch.lower (r.takeWhile tok) ++ [47] ++ Ch.lower ((r.dropWhile tok).tail.takeWhile tok), (r.dropWhile tok).tail.dropWhile tok))
  else .inr (Ch.lower (r.takeWhile tok), r.dropWhile tok)
/-- a word, and all its parameters -/
def fin (n : Nat) (wd r : List UInt8) (acc : List Par) : Nat ⊕ (List UInt8 × List Par) := match pars n r acc with
  | .inl c => .inl c
  | .inr ps => .inr (wd, ps)
/-- a value with parameters: a code, or its word and its parameters -/
def media (l : List UInt8) : Nat ⊕ (List UInt8 × List Par) :=
  if Ch.isVisible l = false then .inl 3
  else match wrd l with
    | .inl c => .inl c
    | .inr x => fin (l.length + 1) x.1 x.2 []
/-! ### by places in a text -/
theorem blanks_drop (l : List UInt8) (i : Nat) : (l.drop i).dropWhile blank = l.drop (blanks l i) := (drop_run blank l i).symm
theorem word_drop (l : List UInt8) (i : Nat) : (l.drop i).dropWhile tok = l.drop (i + word l i) := (drop_run tok l i).symm
theorem word_take (l : List UInt8) (i : Nat) : (l.drop i).takeWhile tok = (l.drop i).take (word l i) := (take_run tok l i).symm
theorem word_nil (l : List UInt8) (i : Nat) : (l.drop i).takeWhile tok = [] ↔ word l i = 0 := by
  unfold word run
  constructor
  · intro h; rw [h]; rfl
  · intro h; exact List.eq_nil_of_length_eq_zero h
theorem word_nil' (l : List UInt8) (i : Nat) : ((l.drop i).take (word l i) = []) = (word l i = 0) := by
  rw [← word_take]; exact propext (word_nil l i)
theorem blanks_le (l : List UInt8) (i : Nat) (h : i ≤ l.length) : blanks l i ≤ l.length := run_le blank l i h
theorem blanks_ge (l : List UInt8) (i : Nat) : i ≤ blanks l i := Nat.le_add_right _ _
theorem word_le (l : List UInt8) (i : Nat) (h : i ≤ l.length) : i + word l i ≤ l.length := run_le tok l i h
theorem val_at (l : List UInt8) (i : Nat) : val (l.drop i) =
    if l[i]? = some 34 then (match quo [] (l.drop (i + 1)) with
      | none => .inl 14
      | some x => .inr x)
    else if word l i = 0 then .inl 5 else .inr ((l.drop i).take (word l i), l.drop (i + word l i)) := by
  unfold val
  simp only [List.head?_drop, List.tail_drop, word_take, word_drop, word_nil']
theorem par_at (l : List UInt8) (i : Nat) : par (l.drop i) =
    if l[i]? = some 59 then
      (if word l (blanks l (i + 1)) = 0 then .inl 5
       else if l[blanks l (i + 1) + word l (blanks l (i + 1))]? = some 61 then (match val (l.drop (blanks l (i + 1) + word l (blanks l (i + 1)) + 1)) with
         | .inl c => .inl c
         | .inr x => .inr ((Ch.lower ((l.drop (blanks l (i + 1))).take (word l (blanks l (i + 1)))), x.1), x.2))
       else .inl 5)
    else .inl 5 := by
  unfold par
  simp only [List.head?_drop, List.tail_drop, blanks_drop, word_drop, word_take, word_nil']
theorem pars_at (l : List UInt8) (n i : Nat) (acc : List Par) (hi : i ≤ l.length) : pars (n + 1) (l.drop i) acc =
    if blanks l i = l.length then .inr acc
    else match par (l.drop (blanks l i)) with
      | .inl c => .inl c
      | .inr x => if acc.any (fun q => q.1 == x.1.1) then .inl 9 else if acc.length = 8 then .inl 8 else pars n x.2 (acc ++ [x.1]) := by
  have hb := blanks_le l i hi
  rw [pars, blanks_drop]
  by_cases h : blanks l i = l.length
  · rw [if_pos h, if_pos (by rw [h, List.drop_length])]
  · rw [if_neg h, if_neg (fun e => h (by have := congrArg List.length e; rw [List.length_drop] at this; simp at this; omega))]
theorem wrd_at (l : List UInt8) : wrd l =
    if word l (blanks l 0) = 0 then .inl 5
    else if l[blanks l 0 + word l (blanks l 0)]? = some 47 then
      (if word l (blanks l 0 + word l (blanks l 0) + 1) = 0 then .inl 5
       else .inr (Ch.lower ((l.drop (blanks l 0)).take (word l (blanks l 0))) ++ [47] ++ Ch.lower ((l.drop (blanks l 0 + word l (blanks l 0) + 1)).take (word l (blanks l 0 + word l (blanks l 0) + 1))), l.drop (blanks l 0 + word l (blanks l 0) + 1 + word l (blanks l 0 + word l (blanks l 0) + 1))))
    else .inr (Ch.lower ((l.drop (blanks l 0)).take (word l (blanks l 0))), l.drop (blanks l 0 + word l (blanks l 0))) := by
  unfold wrd
  have e : l.dropWhile blank = l.drop (blanks l 0) := by have := blanks_drop l 0; rwa [List.drop_zero] at this
  simp only [e, word_drop, List.head?_drop, List.tail_drop, word_take, word_nil']
theorem media_at (l : List UInt8) (hv : Ch.isVisible l = true) (i0 n0 : Nat) (hi : blanks l 0 = i0) (hn : word l i0 = n0) : media l =
    if n0 = 0 then .inl 5
    else if l[i0 + n0]? = some 47 then
      (if word l (i0 + n0 + 1) = 0 then .inl 5
       else fin (l.length + 1) (Ch.lower ((l.drop i0).take n0) ++ [47] ++ Ch.lower ((l.drop (i0 + n0 + 1)).take (word l (i0 + n0 + 1)))) (l.drop (i0 + n0 + 1 + word l (i0 + n0 + 1))) [])
    else fin (l.length + 1) (Ch.lower ((l.drop i0).take n0)) (l.drop (i0 + n0)) [] := by
  unfold media
  rw [if_neg (by rw [hv]; simp), wrd_at, hi, hn]
  by_cases h : n0 = 0
  · rw [if_pos h, if_pos h]
  · rw [if_neg h, if_neg h]
    by_cases h47 : l[i0 + n0]? = some 47
    · rw [if_pos h47, if_pos h47]
      by_cases h2 : word l (i0 + n0 + 1) = 0
      · rw [if_pos h2, if_pos h2]
      · rw [if_neg h2, if_neg h2]
    · rw [if_neg h47, if_neg h47]
theorem fin_at (l : List UInt8) (n i : Nat) (wd : List UInt8) (acc : List Par) (hi : i ≤ l.length) : fin (n + 1) wd (l.drop i) acc =
    if blanks l i = l.length then .inr (wd, acc)
    else match par (l.drop (blanks l i)) with
      | .inl c => .inl c
      | .inr x => if acc.any (fun q => q.1 == x.1.1) then .inl 9 else if acc.length = 8 then .inl 8 else fin n wd x.2 (acc ++ [x.1]) := by
  unfold fin
  rw [pars_at l n i acc hi]
  by_cases h : blanks l i = l.length
  · rw [if_pos h, if_pos h]
  · rw [if_neg h, if_neg h]
    cases par (l.drop (blanks l i)) with
    | inl c => rfl
    | inr x =>
      simp only []
      by_cases h1 : (acc.any fun q => q.1 == x.1.1) = true
      · rw [if_pos h1, if_pos h1]
      · rw [if_neg h1, if_neg h1]
        by_cases h2 : acc.length = 8
        · rw [if_pos h2, if_pos h2]
        · rw [if_neg h2, if_neg h2]
end Go.Proofs.YtdclmpdjjkjfjaaGreatDoor.Pm

/- Texts without blanks at their ends, again. -/
namespace Go.Proofs.YtdclmpdjjkjfjaaGreatDoor
open Go.RowKit

theorem trimS_le (l : List UInt8) : (Lib.trimS l Ch.ws).length ≤ l.length := by
  unfold Lib.trimS Lib.trimLeftS Lib.trimRightS
  have h1 := (List.dropWhile_suffix (l := (l.reverse.dropWhile (Ch.ws.contains ·)).reverse) (Ch.ws.contains ·)).length_le
  have h2 := (List.dropWhile_suffix (l := l.reverse) (Ch.ws.contains ·)).length_le
  simp only [List.length_reverse] at h1 h2
  omega

theorem drop_again (p : UInt8 → Bool) : ∀ l : List UInt8, (l.dropWhile p).dropWhile p = l.dropWhile p
  | [] => rfl
  | a :: t => by
    rw [List.dropWhile_cons]
    cases hp : p a
    · simp only [Bool.false_eq_true, if_false]
      rw [List.dropWhile_cons, hp]
      rfl
    · simp only [if_true]
      exact drop_again p t

theorem trimS_again (l : List UInt8) : Lib.trimS (Lib.trimS l Ch.ws) Ch.ws = Lib.trimS l Ch.ws := by
  conv => lhs; rw [← Ch.trim_both]
  have h1 : Lib.trimLeftS (Lib.trimS l Ch.ws) Ch.ws = Lib.trimS l Ch.ws := drop_again _ _
  rw [h1, ← Ch.trim_both]
  unfold Lib.trimRightS
  rw [List.reverse_reverse, drop_again]
end Go.Proofs.YtdclmpdjjkjfjaaGreatDoor

/- Plain laws of a head's fields: there and back; with no program in them. -/
namespace Go.Proofs.YtdclmpdjjkjfjaaGreatDoor.Fd

/-- what stands first, as the library looks for it -/
theorem index_at (l : List UInt8) (c : UInt8) : (Lib.indexByte l c = -1 ∧ at_ c l = l.length) ∨ (Lib.indexByte l c = (at_ c l : Int) ∧ at_ c l < l.length) := by
  by_cases h : Lib.indexByte l c = -1
  · refine Or.inl ⟨h, at_none fun j hj e => ?_⟩
    exact Lib.indexByte_none h j (by rw [List.getElem?_eq_getElem hj, e])
  · have hge := Lib.indexByte_ge l c
    obtain ⟨o, ho⟩ : ∃ o : Nat, Lib.indexByte l c = o := ⟨(Lib.indexByte l c).toNat, by omega⟩
    obtain ⟨h1, h2⟩ := Lib.indexByte_some ho
    obtain ⟨hlt, he⟩ := List.getElem?_eq_some_iff.1 h1
    have : at_ c l = o := at_is hlt he fun j hj e => h2 j hj (by rw [List.getElem?_eq_getElem (by omega), e])
    refine Or.inr ⟨by rw [ho, this], by omega⟩

theorem all_dropWhile (p q : UInt8 → Bool) (h : ∀ b, q b = true → p b = true) : ∀ l : List UInt8, (l.dropWhile q).all p = l.all p
  | [] => rfl
  | a :: t => by
    rw [List.dropWhile_cons]
    cases hq : q a
    · rfl
    · rw [if_pos rfl, all_dropWhile p q h t, List.all_cons, h a hq]; rfl
theorem ws_seen (b : UInt8) (h : Ch.ws.contains b = true) : Ch.visible b.toNat = true := by
  have hb := b.toNat_lt
  have := (show ∀ n : Fin 256, Ch.ws.contains n.val.toUInt8 = true → Ch.visible ((n.val.toUInt8).toNat : Int) = true by decide +kernel) ⟨b.toNat, hb⟩
  have e : b.toNat.toUInt8 = b := by simp
  simp only [e] at this
  exact this h
/-- blanks and tabs are visible -/
theorem seen_trim (l : List UInt8) : Ch.isVisible (Lib.trimS l Ch.ws) = Ch.isVisible l := by
  unfold Ch.isVisible Lib.trimS Lib.trimLeftS Lib.trimRightS
  rw [all_dropWhile _ _ ws_seen, List.all_reverse, all_dropWhile _ _ ws_seen, List.all_reverse]
/-- a field out of a line: its value trimmed first -/
theorem of_trim (l : List UInt8) : of l = if at_ 58 l = l.length then bad 5
    else if Ch.isToken (l.take (at_ 58 l)) = false then bad 6
    else if 40 < at_ 58 l then bad 4
    else if Ch.isVisible (Lib.trimS (l.drop (at_ 58 l + 1)) Ch.ws) = false then bad 3
    else ⟨l.take (at_ 58 l), Lib.trimS (l.drop (at_ 58 l + 1)) Ch.ws, 0⟩ := by
  unfold of; rw [seen_trim]

theorem token_colon (n : List UInt8) (h : Ch.isToken n = true) (j : Nat) (hj : j < n.length) : n[j] ≠ 58 := by
  intro e
  unfold Ch.isToken at h
  rw [Bool.and_eq_true, List.all_eq_true] at h
  have := h.2 _ (List.getElem_mem hj)
  rw [e] at this
  exact absurd this (by decide)
theorem trim_blank (v : List UInt8) : Lib.trimS (32 :: v) Ch.ws = Lib.trimS v Ch.ws := by
  rw [← Ch.trim_both, ← Ch.trim_both]
  rfl
/-- a field that has a text -/
structure Good (n v : List UInt8) : Prop where
  tok : Ch.isToken n = true
  short : n.length ≤ 40
  seen : Ch.isVisible v = true
  trim : Lib.trimS v Ch.ws = v
theorem text_good {n v : List UInt8} (h : Good n v) (hl : n.length + 2 + v.length ≤ 200) : text n v = (n ++ [58, 32] ++ v, 0) := by
  unfold text
  rw [if_neg (by rw [h.tok]; simp), if_neg (by have := h.short; omega), if_neg (by rw [h.seen, h.trim]; simp)]
theorem text_long {n v : List UInt8} (h : Good n v) (hl : ¬ n.length + 2 + v.length ≤ 200) : text n v = ([], 4) := by
  unfold text
  rw [if_neg (by rw [h.tok]; simp), if_pos (by omega)]
theorem text_zero {n v : List UInt8} (h : (text n v).2 = 0) : Good n v ∧ n.length + 2 + v.length ≤ 200 := by
  unfold text at h
  split at h
  · simp at h
  · rename_i h1
    split at h
    · simp at h
    · rename_i h2
      split at h
      · simp at h
      · rename_i h3
        have q : Ch.isVisible v = true := by
          cases e : Ch.isVisible v
          · exact absurd (Or.inl e) h3
          · rfl
        have t : Lib.trimS v Ch.ws = v := by
          by_cases e : Lib.trimS v Ch.ws = v
          · exact e
          · exact absurd (Or.inr e) h3
        exact ⟨⟨by simpa using h1, by omega, q, t⟩, by omega⟩
/-- there -/
theorem of_text {n v : List UInt8} (h : Good n v) : of (n ++ [58, 32] ++ v) = ⟨n, v, 0⟩ := by
  have hlen : (n ++ [58, 32] ++ v).length = n.length + 2 + v.length := by simp; omega
  have hat : at_ 58 (n ++ [58, 32] ++ v) = n.length := by
    refine at_is (by omega) ?_ fun j hj => ?_
    · simp
    · have := token_colon n h.tok j hj
      simpa [List.getElem_append, hj] using this
  have hd : (n ++ [58, 32] ++ v).drop (n.length + 1) = 32 :: v := by
    rw [List.append_assoc, ← List.drop_drop]
    simp
  have ht : (n ++ [58, 32] ++ v).take n.length = n := by rw [List.append_assoc]; simp
  rw [of_trim, hat, hd, ht, trim_blank, h.trim, if_neg (by omega), if_neg (by rw [h.tok]; simp), if_neg (by have := h.short; omega), if_neg (by rw [h.seen]; simp)]
/-- and back -/
theorem of_good {l : List UInt8} (h : (of l).code = 0) : Good (of l).name (of l).value := by
  rw [of_trim] at h ⊢
  split at h
  · simp [bad] at h
  · rename_i h1
    rw [if_neg h1]
    split at h
    · simp [bad] at h
    · rename_i h2
      rw [if_neg h2]
      split at h
      · simp [bad] at h
      · rename_i h3
        rw [if_neg h3]
        split at h
        · simp [bad] at h
        · rename_i h4
          rw [if_neg h4]
          exact ⟨by simpa using h2, by rw [List.length_take]; omega, by simpa using h4, trimS_again _⟩
theorem of_bad {l : List UInt8} (h : (of l).code ≠ 0) : (of l).name = [] ∧ (of l).value = [] := by
  unfold of at h ⊢
  split
  · exact ⟨rfl, rfl⟩
  · rename_i h1
    rw [if_neg h1] at h
    split
    · exact ⟨rfl, rfl⟩
    · rename_i h2
      rw [if_neg h2] at h
      split
      · exact ⟨rfl, rfl⟩
      · rename_i h3
        rw [if_neg h3] at h
        split
        · exact ⟨rfl, rfl⟩
        · rename_i h4
          rw [if_neg h4] at h
          exact absurd rfl h
/-- what is read of a line is no longer than it -/
theorem of_length (l : List UInt8) : (of l).name.length ≤ l.length ∧ (of l).value.length ≤ l.length := by
  unfold of
  split
  · simp [bad]
  · split
    · simp [bad]
    · split
      · simp [bad]
      · split
        · simp [bad]
        · refine ⟨List.length_take_le' .., ?_⟩
          have := trimS_le (l.drop (at_ 58 l + 1))
          rw [List.length_drop] at this
          show (Lib.trimS (l.drop (at_ 58 l + 1)) Ch.ws).length ≤ l.length
          omega
theorem text_length (n v : List UInt8) : (text n v).1.length ≤ n.length + 2 + v.length := by
  unfold text
  split
  · simp
  · split
    · simp
    · split
      · simp
      · simp; omega
end Go.Proofs.YtdclmpdjjkjfjaaGreatDoor.Fd
