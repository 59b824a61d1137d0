/- Plain functions on bytes and texts, with no program in them: what package chars and the document's own answer come to. -/
import Derived.Lib.SlTrimSet
import Derived.Lib.IndexLaws
import Derived.Lib.Strings
import Derived.Below
namespace Go.Proofs.Ytankilclhknbkaa.Ch

def digit (c : Int) : Bool := decide (48 ≤ c) && decide (c ≤ 57)
def capital (c : Int) : Bool := decide (65 ≤ c) && decide (c ≤ 90)
def letter (c : Int) : Bool := (decide (97 ≤ c) && decide (c ≤ 122)) || capital c
def visible (c : Int) : Bool := c == 9 || (decide (32 ≤ c) && c != 127)
/-- the marks that may stand in a token beside digits and letters -/
def marks : List UInt8 := [33, 35, 36, 37, 38, 39, 42, 43, 45, 46, 94, 95, 96, 124, 126]
def token (c : Int) : Bool := digit c || letter c || decide (0 ≤ Lib.indexByte marks c.toNat.toUInt8)
def oneOf (c : Int) (l : List UInt8) : Bool := l.any fun b => (b.toNat : Int) == c
def hex (c : Int) : Int := if digit c then c - 48 else if decide (97 ≤ c) && decide (c ≤ 102) then c - 87 else if decide (65 ≤ c) && decide (c ≤ 70) then c - 55 else -1

theorem byteAll {p : Int → Bool} (h : (List.range 256).all (fun n => p (n : Int)) = true) (c : Int) (h0 : 0 ≤ c) (h1 : c ≤ 255) : p c = true := by
  obtain ⟨n, rfl⟩ := Int.eq_ofNat_of_zero_le h0
  exact List.all_eq_true.1 h n (List.mem_range.2 (by omega))

/-- all bytes that may stand in a token, as the document's own answer lists them -/
def tokens : List UInt8 := [48, 49, 50, 51, 52, 53, 54, 55, 56, 57, 65, 66, 67, 68, 69, 70, 71, 72, 73, 74, 75, 76, 77, 78, 79, 80, 81, 82, 83, 84, 85, 86, 87, 88, 89, 90, 97, 98, 99, 100, 101, 102, 103, 104, 105, 106, 107, 108, 109, 110, 111, 112, 113, 114, 115, 116, 117, 118, 119, 120, 121, 122, 33, 35, 36, 37, 38, 39, 42, 43, 45, 46, 94, 95, 96, 124, 126]
theorem oneOf_tokens (c : Int) (h0 : 0 ≤ c) (h1 : c ≤ 255) : oneOf c tokens = token c := by
  have := byteAll (p := fun c => oneOf c tokens == token c) (by decide +kernel) c h0 h1
  simpa using this
def isToken (l : List UInt8) : Bool := !l.isEmpty && l.all fun b => token b.toNat
def allToken (l : List UInt8) : Bool := l.all fun b => token b.toNat
def isVisible (l : List UInt8) : Bool := l.all fun b => visible b.toNat

theorem hex_range (c : Int) (h0 : 0 ≤ c) (h1 : c ≤ 255) : -1 ≤ hex c ∧ hex c ≤ 15 := by
  have := byteAll (p := fun c => decide (-1 ≤ hex c ∧ hex c ≤ 15)) (by decide +kernel) c h0 h1
  simpa using this

theorem oneOf_snoc (c : Int) (l : List UInt8) (b : UInt8) : oneOf c (l ++ [b]) = (oneOf c l || ((b.toNat : Int) == c)) := by
  simp [oneOf]

theorem take_snoc (s : ByteArray) (k : Nat) (h : k < s.size) : s.data.toList.take (k + 1) = s.data.toList.take k ++ [s[k]] := by
  rw [List.take_succ_eq_append_getElem (by simpa using h)]; rfl

theorem take_all (s : ByteArray) (k : Nat) (h : s.size ≤ k) : s.data.toList.take k = s.data.toList :=
  List.take_of_length_le (by simpa using h)

/-- is there one, once it was met -/
theorem any_of_take (p : UInt8 → Bool) (s : ByteArray) (k : Nat) (h : k < s.size) (hp : p s[k] = true) : s.data.toList.any p = true := by
  rw [List.any_eq_true]
  exact ⟨s[k], by
    have : s[k] = s.data.toList[k]'(by simpa using h) := rfl
    rw [this]; exact List.getElem_mem _, hp⟩

theorem all_of_take (p : UInt8 → Bool) (s : ByteArray) (k : Nat) (h : k < s.size) (hp : p s[k] = false) : s.data.toList.all p = false := by
  rw [Bool.eq_false_iff, Ne, List.all_eq_true]
  intro hall
  have := hall s[k] (by
    have : s[k] = s.data.toList[k]'(by simpa using h) := rfl
    rw [this]; exact List.getElem_mem _)
  rw [this] at hp; cases hp

/-- a digit to a base -/
def dig (base : Int) (b : UInt8) : Bool := decide (0 ≤ hex b.toNat) && decide (hex b.toNat < base)
def numOf (base : Int) (l : List UInt8) : Int := l.foldl (fun n b => n * base + hex b.toNat) 0
def number (base most : Int) (l : List UInt8) : Int × Bool :=
  if l = [] ∨ most < l.length then (0, false) else if l.all (dig base) then (numOf base l, true) else (0, false)

theorem numOf_snoc (base : Int) (l : List UInt8) (b : UInt8) : numOf base (l ++ [b]) = numOf base l * base + hex b.toNat := by
  simp [numOf]

theorem hex_byte (b : UInt8) : -1 ≤ hex b.toNat ∧ hex b.toNat ≤ 15 := hex_range _ (by omega) (by have := b.toNat_lt; omega)

theorem numOf_aux (base : Int) (hb0 : 0 ≤ base) (hb1 : base ≤ 16) : ∀ (l : List UInt8) (n : Int) (B : Nat), 0 ≤ n → n < 16 ^ B → l.all (dig base) = true →
    0 ≤ l.foldl (fun n b => n * base + hex b.toNat) n ∧ l.foldl (fun n b => n * base + hex b.toNat) n < 16 ^ (B + l.length)
  | [], n, B, h0, h1, _ => ⟨h0, h1⟩
  | b :: l, n, B, h0, h1, hl => by
    rw [List.all_cons, Bool.and_eq_true] at hl
    have hx := hex_byte b
    have hd : 0 ≤ hex b.toNat := by
      have := hl.1; unfold dig at this; rw [Bool.and_eq_true] at this; exact of_decide_eq_true this.1
    have p0 : 0 ≤ n * base := Int.mul_nonneg h0 hb0
    have p1 : n * base ≤ n * 16 := Int.mul_le_mul_of_nonneg_left hb1 h0
    have e : (16 : Int) ^ (B + 1) = 16 ^ B * 16 := Int.pow_succ ..
    have := numOf_aux base hb0 hb1 l (n * base + hex b.toNat) (B + 1) (by omega) (by omega) hl.2
    rw [List.foldl_cons, List.length_cons, show B + (l.length + 1) = B + 1 + l.length by omega]
    exact this

theorem numOf_bound (base : Int) (hb0 : 0 ≤ base) (hb1 : base ≤ 16) (l : List UInt8) (hl : l.all (dig base) = true) (h9 : l.length ≤ 9) : 0 ≤ numOf base l ∧ numOf base l < 68719476736 := by
  have h := numOf_aux base hb0 hb1 l 0 0 (Int.le_refl _) (by decide) hl
  have : (16 : Int) ^ (0 + l.length) ≤ 16 ^ 9 := by
    have : (16 : Nat) ^ (0 + l.length) ≤ 16 ^ 9 := Nat.pow_le_pow_right (by decide) (by omega)
    exact_mod_cast this
  have e : (16 : Int) ^ 9 = 68719476736 := by decide
  exact ⟨h.1, by have := h.2; unfold numOf; omega⟩

theorem all_snoc (p : UInt8 → Bool) (l : List UInt8) (b : UInt8) : (l ++ [b]).all p = (l.all p && p b) := by simp

theorem number_short (base most : Int) (l : List UInt8) (h : l = [] ∨ most < l.length) : number base most l = (0, false) := by unfold number; rw [if_pos h]
theorem number_no (base most : Int) (l : List UInt8) (h : l.all (dig base) = false) : number base most l = (0, false) := by
  unfold number; split
  · rfl
  · rw [h]; rfl
theorem number_yes (base most : Int) (l : List UInt8) (h1 : l ≠ []) (h2 : ¬ most < l.length) (h : l.all (dig base) = true) : number base most l = (numOf base l, true) := by
  unfold number; rw [if_neg (by simp [h1, h2]), h]; rfl

theorem len_list (s : ByteArray) : s.data.toList.length = s.size := by simp
theorem ne_nil (s : ByteArray) (h : 0 < s.size) : s.data.toList ≠ [] := by
  intro e; have := len_list s; rw [e] at this; simp at this; omega
theorem empty_eq (s : ByteArray) (h : s.size = 0) : s = ⟨#[]⟩ := by
  apply ByteArray.ext; exact Array.eq_empty_of_size_eq_zero h
theorem isEmpty_false (s : ByteArray) (h : 0 < s.size) : s.toList.isEmpty = false := by
  rw [Lib.toList_data]
  cases h' : s.data.toList with
  | nil => exact absurd h' (ne_nil s h)
  | cons _ _ => rfl

/-- a byte in small letters; as far as the first j capitals are looked at -/
def lowTo (b : UInt8) (j : Nat) : UInt8 := if 65 ≤ b.toNat ∧ b.toNat < 65 + j then b + 32 else b
def lowB (b : UInt8) : UInt8 := lowTo b 26
def lower (l : List UInt8) : List UInt8 := l.map lowB

theorem caps_at (j : Nat) (h : j < 26) : ((⟨#[65, 66, 67, 68, 69, 70, 71, 72, 73, 74, 75, 76, 77, 78, 79, 80, 81, 82, 83, 84, 85, 86, 87, 88, 89, 90]⟩ : ByteArray)[j]'h).toNat = 65 + j :=
  (show ∀ j : Fin 26, ((⟨#[65, 66, 67, 68, 69, 70, 71, 72, 73, 74, 75, 76, 77, 78, 79, 80, 81, 82, 83, 84, 85, 86, 87, 88, 89, 90]⟩ : ByteArray)[j.val]'j.isLt).toNat = 65 + j.val by decide +kernel) ⟨j, h⟩
theorem lits_at (j : Nat) (h : j < 26) : ((⟨#[97, 98, 99, 100, 101, 102, 103, 104, 105, 106, 107, 108, 109, 110, 111, 112, 113, 114, 115, 116, 117, 118, 119, 120, 121, 122]⟩ : ByteArray).extract j (j + 1)).data.toList = [((97 + j).toUInt8)] :=
  (show ∀ j : Fin 26, ((⟨#[97, 98, 99, 100, 101, 102, 103, 104, 105, 106, 107, 108, 109, 110, 111, 112, 113, 114, 115, 116, 117, 118, 119, 120, 121, 122]⟩ : ByteArray).extract j.val (j.val + 1)).data.toList = [((97 + j.val).toUInt8)] by decide +kernel) ⟨j, h⟩
theorem lowTo_hit (b : UInt8) (j : Nat) (h : j < 26) (he : (((((⟨#[65, 66, 67, 68, 69, 70, 71, 72, 73, 74, 75, 76, 77, 78, 79, 80, 81, 82, 83, 84, 85, 86, 87, 88, 89, 90]⟩ : ByteArray)[j]'h).toNat : Nat) : Int) == (b.toNat : Int)) = true) :
    ((⟨#[97, 98, 99, 100, 101, 102, 103, 104, 105, 106, 107, 108, 109, 110, 111, 112, 113, 114, 115, 116, 117, 118, 119, 120, 121, 122]⟩ : ByteArray).extract j (j + 1)).data.toList = [lowTo b (j + 1)] := by
  rw [caps_at j h] at he
  have hb : b.toNat = 65 + j := by have := beq_iff_eq.1 he; omega
  rw [lits_at j h]
  unfold lowTo
  rw [if_pos (by omega)]
  have : (97 + j).toUInt8 = b + 32 := by
    apply UInt8.toNat_inj.1
    rw [UInt8.toNat_add, hb]
    simp
    omega
  rw [this]
theorem lowTo_miss (b : UInt8) (j : Nat) (h : j < 26) (he : (((((⟨#[65, 66, 67, 68, 69, 70, 71, 72, 73, 74, 75, 76, 77, 78, 79, 80, 81, 82, 83, 84, 85, 86, 87, 88, 89, 90]⟩ : ByteArray)[j]'h).toNat : Nat) : Int) == (b.toNat : Int)) = false) :
    lowTo b (j + 1) = lowTo b j := by
  rw [caps_at j h] at he
  have hb : ¬ b.toNat = 65 + j := by have := beq_eq_false_iff_ne.1 he; omega
  unfold lowTo
  by_cases hc : 65 ≤ b.toNat ∧ b.toNat < 65 + j
  · rw [if_pos hc, if_pos (by omega)]
  · rw [if_neg hc, if_neg (by omega)]
theorem lowTo_zero (b : UInt8) : lowTo b 0 = b := by unfold lowTo; rw [if_neg (by omega)]
theorem one_at (s : ByteArray) (k : Nat) (h : k < s.size) : (s.extract k (k + 1)).data.toList = [s[k]] := by
  rw [Lib.extract_data, show k + 1 - k = 1 by omega, List.drop_eq_getElem_cons (by simpa using h)]
  rfl
theorem lower_snoc (l : List UInt8) (b : UInt8) : lower (l ++ [b]) = lower l ++ [lowB b] := by simp [lower]
theorem lower_length (l : List UInt8) : (lower l).length = l.length := by simp [lower]
theorem data_append (a b : ByteArray) : (a ++ b).data.toList = a.data.toList ++ b.data.toList := by simp
theorem str_eq {x : ByteArray} {l : List UInt8} (h : x.data.toList = l) : x = ⟨l.toArray⟩ := by
  obtain ⟨⟨m⟩⟩ := x
  simp only at h
  rw [h]
theorem size_of_list {x : ByteArray} {l : List UInt8} (h : x.data.toList = l) : x.size = l.length := by rw [← h, len_list]

/-- the digits to the base 16 -/
def hexs : List UInt8 := [48, 49, 50, 51, 52, 53, 54, 55, 56, 57, 97, 98, 99, 100, 101, 102]
theorem hexs_at (j : Nat) (h : j < 16) : ((⟨#[48, 49, 50, 51, 52, 53, 54, 55, 56, 57, 97, 98, 99, 100, 101, 102]⟩ : ByteArray).extract j (j + 1)).data.toList = [hexs.getD j 0] :=
  (show ∀ j : Fin 16, ((⟨#[48, 49, 50, 51, 52, 53, 54, 55, 56, 57, 97, 98, 99, 100, 101, 102]⟩ : ByteArray).extract j.val (j.val + 1)).data.toList = [hexs.getD j.val 0] by decide +kernel) ⟨j, h⟩
theorem hexs_hit (b : UInt8) (j : Nat) (h : j < 16) (he : lowB b = hexs.getD j 0) : hex b.toNat = j := by
  have hb := b.toNat_lt
  have := (show ∀ (n : Fin 256) (j : Fin 16), lowB n.val.toUInt8 = hexs.getD j.val 0 → hex ((n.val.toUInt8).toNat : Int) = (j.val : Int) by decide +kernel) ⟨b.toNat, hb⟩ ⟨j, h⟩
  have e : b.toNat.toUInt8 = b := by simp
  simp only [e] at this
  exact this he
theorem hexs_miss (b : UInt8) (he : ∀ j, j < 16 → lowB b ≠ hexs.getD j 0) : hex b.toNat = -1 := by
  have hb := b.toNat_lt
  have := (show ∀ (n : Fin 256), (∀ j : Fin 16, lowB n.val.toUInt8 ≠ hexs.getD j.val 0) → hex ((n.val.toUInt8).toNat : Int) = -1 by decide +kernel) ⟨b.toNat, hb⟩
  have e : b.toNat.toUInt8 = b := by simp
  simp only [e] at this
  exact this fun j => he j.val j.isLt
theorem piece_eq (b : UInt8) (j : Nat) (h : j < 16) : ([lowB b] == ((⟨#[48, 49, 50, 51, 52, 53, 54, 55, 56, 57, 97, 98, 99, 100, 101, 102]⟩ : ByteArray).extract j (j + 1)).toList) = decide (lowB b = hexs.getD j 0) := by
  rw [Lib.toList_data, hexs_at j h]
  by_cases e : lowB b = hexs.getD j 0
  · rw [e]; simp
  · rw [decide_eq_false e]; exact beq_eq_false_iff_ne.2 (fun h => e (by simpa using h))
theorem lower_one (b : UInt8) : (⟨(lower [b]).toArray⟩ : ByteArray) = ⟨#[lowB b]⟩ := rfl
theorem digits_one (c : Int) : oneOf c [48, 49, 50, 51, 52, 53, 54, 55, 56, 57] = digit c := by
  unfold oneOf digit
  simp only [List.any_cons, List.any_nil, Bool.or_false]
  by_cases h : 48 ≤ c ∧ c ≤ 57
  · rw [decide_eq_true h.1, decide_eq_true h.2]
    have : c = 48 ∨ c = 49 ∨ c = 50 ∨ c = 51 ∨ c = 52 ∨ c = 53 ∨ c = 54 ∨ c = 55 ∨ c = 56 ∨ c = 57 := by omega
    rcases this with rfl | rfl | rfl | rfl | rfl | rfl | rfl | rfl | rfl | rfl <;> decide
  · have e : (decide (48 ≤ c) && decide (c ≤ 57)) = false := by
      by_cases h1 : 48 ≤ c
      · rw [decide_eq_false (show ¬ c ≤ 57 from fun h2 => h ⟨h1, h2⟩)]; simp
      · rw [decide_eq_false h1]; rfl
    rw [e]
    have hn : ∀ n : Nat, 48 ≤ n → n ≤ 57 → ((n : Int) == c) = false := fun n a b => beq_eq_false_iff_ne.2 (by omega)
    simp only [Bool.or_eq_false_iff]
    refine ⟨?_, ?_, ?_, ?_, ?_, ?_, ?_, ?_, ?_, ?_⟩ <;> exact hn _ (by decide) (by decide)
theorem dig10 (b : UInt8) : dig 10 b = digit b.toNat := by
  have hb := b.toNat_lt
  have := byteAll (p := fun c => (decide (0 ≤ hex c) && decide (hex c < 10)) == digit c) (by decide +kernel) b.toNat (by omega) (by omega)
  exact beq_iff_eq.1 this
theorem dig16 (b : UInt8) : dig 16 b = decide (0 ≤ hex b.toNat) := by
  have := hex_byte b
  unfold dig
  rw [decide_eq_true (show hex b.toNat < 16 by omega)]; simp

end Go.Proofs.Ytankilclhknbkaa.Ch
