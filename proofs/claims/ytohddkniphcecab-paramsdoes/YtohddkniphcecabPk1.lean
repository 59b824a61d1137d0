/- Small texts, one behind the other: PlainA, PlainB, PlainP, PlainM. -/
import Derived.Lib.SlTrimSet
import Derived.Lib.IndexLaws
import Derived.Lib.Strings
import Derived.Below
/- Plain functions on bytes and texts, with no program in them: what package chars and the document's own answer come to. -/
namespace Go.Proofs.Ytohddkniphcecab.Ch

def digit (c : Int) : Bool := decide (48 ≤ c) && decide (c ≤ 57)
def capital (c : Int) : Bool := decide (65 ≤ c) && decide (c ≤ 90)
def letter (c : Int) : Bool := (decide (97 ≤ c) && decide (c ≤ 122)) || capital c
def visible (c : Int) : Bool := c == 9 || (decide (32 ≤ c) && c != 127)
/-- the marks that may stand in a token beside digits and letters -/
def marks : List UInt8 := [33, 35, 36, 37, 38, 39, 42, 43, 45, 46, 94, 95, 96, 124, 126]
def token (c : Int) : Bool := digit c || letter c || decide (0 ≤ Lib.indexByte marks c.toNat.toUInt8)
def oneOf (c : Int) (l : List UInt8) : Bool := l.any fun b => (b.toNat : Int) == c
def hex (c : Int) : Int := if digit c then c - 48 else if decide (97 ≤ c) && decide (c ≤ 102) then c - 87 else if decide (65 ≤ c) && decide (c ≤ 70) then c - 55 else -1

theorem byteAll {p : Int → Bool} (h : (List.range 256).all (fun n => p (n : Int)) = true) (c : Int) (h0 : 0 ≤ c) (h1 : c ≤ 255) : p c = true := by
  obtain ⟨n, rfl⟩ := Int.eq_ofNat_of_zero_le h0
  exact List.all_eq_true.1 h n (List.mem_range.2 (by omega))

/-- all bytes that may stand in a token, as the document's own answer lists them -/
def tokens : List UInt8 := [48, 49, 50, 51, 52, 53, 54, 55, 56, 57, 65, 66, 67, 68, 69, 70, 71, 72, 73, 74, 75, 76, 77, 78, 79, 80, 81, 82, 83, 84, 85, 86, 87, 88, 89, 90, 97, 98, 99, 100, 101, 102, 103, 104, 105, 106, 107, 108, 109, 110, 111, 112, 113, 114, 115, 116, 117, 118, 119, 120, 121, 122, 33, 35, 36, 37, 38, 39, 42, 43, 45, 46, 94, 95, 96, 124, 126]
theorem oneOf_tokens (c : Int) (h0 : 0 ≤ c) (h1 : c ≤ 255) : oneOf c tokens = token c := by
  have := byteAll (p := fun c => oneOf c tokens == token c) (by decide +kernel) c h0 h1
  simpa using this
def isToken (l : List UInt8) : Bool := !l.isEmpty && l.all fun b => token b.toNat
def allToken (l : List UInt8) : Bool := l.all fun b => token b.toNat
def isVisible (l : List UInt8) : Bool := l.all fun b => visible b.toNat

theorem hex_range (c : Int) (h0 : 0 ≤ c) (h1 : c ≤ 255) : -1 ≤ hex c ∧ hex c ≤ 15 := by
  have := byteAll (p := fun c => decide (-1 ≤ hex c ∧ hex c ≤ 15)) (by decide +kernel) c h0 h1
  simpa using this

theorem oneOf_snoc (c : Int) (l : List UInt8) (b : UInt8) : oneOf c (l ++ [b]) = (oneOf c l || ((b.toNat : Int) == c)) := by
  simp [oneOf]

theorem take_snoc (s : ByteArray) (k : Nat) (h : k < s.size) : s.data.toList.take (k + 1) = s.data.toList.take k ++ [s[k]] := by
  rw [List.take_succ_eq_append_getElem (by simpa using h)]; rfl

theorem take_all (s : ByteArray) (k : Nat) (h : s.size ≤ k) : s.data.toList.take k = s.data.toList :=
  List.take_of_length_le (by simpa using h)

/-- is there one, once it was met -/
theorem any_of_take (p : UInt8 → Bool) (s : ByteArray) (k : Nat) (h : k < s.size) (hp : p s[k] = true) : s.data.toList.any p = true := by
  rw [List.any_eq_true]
  exact ⟨s[k], by
    have : s[k] = s.data.toList[k]'(by simpa using h) := rfl
    rw [this]; exact List.getElem_mem _, hp⟩

theorem all_of_take (p : UInt8 → Bool) (s : ByteArray) (k : Nat) (h : k < s.size) (hp : p s[k] = false) : s.data.toList.all p = false := by
  rw [Bool.eq_false_iff, Ne, List.all_eq_true]
  intro hall
  have := hall s[k] (by
    have : s[k] = s.data.toList[k]'(by simpa using h) := rfl
    rw [this]; exact List.getElem_mem _)
  rw [this] at hp; cases hp

/-- a digit to a base -/
def dig (base : Int) (b : UInt8) : Bool := decide (0 ≤ hex b.toNat) && decide (hex b.toNat < base)
def numOf (base : Int) (l : List UInt8) : Int := l.foldl (fun n b => n * base + hex b.toNat) 0
def number (base most : Int) (l : List UInt8) : Int × Bool :=
  if l = [] ∨ most < l.length then (0, false) else if l.all (dig base) then (numOf base l, true) else (0, false)

theorem numOf_snoc (base : Int) (l : List UInt8) (b : UInt8) : numOf base (l ++ [b]) = numOf base l * base + hex b.toNat := by
  simp [numOf]

theorem hex_byte (b : UInt8) : -1 ≤ hex b.toNat ∧ hex b.toNat ≤ 15 := hex_range _ (by omega) (by have := b.toNat_lt; omega)

theorem numOf_aux (base : Int) (hb0 : 0 ≤ base) (hb1 : base ≤ 16) : ∀ (l : List UInt8) (n : Int) (B : Nat), 0 ≤ n → n < 16 ^ B → l.all (dig base) = true →
    0 ≤ l.foldl (fun n b => n * base + hex b.toNat) n ∧ l.foldl (fun n b => n * base + hex b.toNat) n < 16 ^ (B + l.length)
  | [], n, B, h0, h1, _ => ⟨h0, h1⟩
  | b :: l, n, B, h0, h1, hl => by
    rw [List.all_cons, Bool.and_eq_true] at hl
    have hx := hex_byte b
    have hd : 0 ≤ hex b.toNat := by
      have := hl.1; unfold dig at this; rw [Bool.and_eq_true] at this; exact of_decide_eq_true this.1
    have p0 : 0 ≤ n * base := Int.mul_nonneg h0 hb0
    have p1 : n * base ≤ n * 16 := Int.mul_le_mul_of_nonneg_left hb1 h0
    have e : (16 : Int) ^ (B + 1) = 16 ^ B * 16 := Int.pow_succ ..
    have := numOf_aux base hb0 hb1 l (n * base + hex b.toNat) (B + 1) (by omega) (by omega) hl.2
    rw [List.foldl_cons, List.length_cons, show B + (l.length + 1) = B + 1 + l.length by omega]
    exact this

theorem numOf_bound (base : Int) (hb0 : 0 ≤ base) (hb1 : base ≤ 16) (l : List UInt8) (hl : l.all (dig base) = true) (h9 : l.length ≤ 9) : 0 ≤ numOf base l ∧ numOf base l < 68719476736 := by
  have h := numOf_aux base hb0 hb1 l 0 0 (Int.le_refl _) (by decide) hl
  have : (16 : Int) ^ (0 + l.length) ≤ 16 ^ 9 := by
    have : (16 : Nat) ^ (0 + l.length) ≤ 16 ^ 9 := Nat.pow_le_pow_right (by decide) (by omega)
    exact_mod_cast this
  have e : (16 : Int) ^ 9 = 68719476736 := by decide
  exact ⟨h.1, by have := h.2; unfold numOf; omega⟩

theorem all_snoc (p : UInt8 → Bool) (l : List UInt8) (b : UInt8) : (l ++ [b]).all p = (l.all p && p b) := by simp

theorem number_short (base most : Int) (l : List UInt8) (h : l = [] ∨ most < l.length) : number base most l = (0, false) := by unfold number; rw [if_pos h]
theorem number_no (base most : Int) (l : List UInt8) (h : l.all (dig base) = false) : number base most l = (0, false) := by
  unfold number; split
  · rfl
  · rw [h]; rfl
theorem number_yes (base most : Int) (l : List UInt8) (h1 : l ≠ []) (h2 : ¬ most < l.length) (h : l.all (dig base) = true) : number base most l = (numOf base l, true) := by
  unfold number; rw [if_neg (by simp [h1, h2]), h]; rfl

theorem len_list (s : ByteArray) : s.data.toList.length = s.size := by simp
theorem ne_nil (s : ByteArray) (h : 0 < s.size) : s.data.toList ≠ [] := by
  intro e; have := len_list s; rw [e] at this; simp at this; omega
theorem empty_eq (s : ByteArray) (h : s.size = 0) : s = ⟨#[]⟩ := by
  apply ByteArray.ext; exact Array.eq_empty_of_size_eq_zero h
theorem isEmpty_false (s : ByteArray) (h : 0 < s.size) : s.toList.isEmpty = false := by
  rw [Lib.toList_data]
  cases h' : s.data.toList with
  | nil => exact absurd h' (ne_nil s h)
  | cons _ _ => rfl

/-- a byte in small letters; as far as the first j capitals are looked at -/
def lowTo (b : UInt8) (j : Nat) : UInt8 := if 65 ≤ b.toNat ∧ b.toNat < 65 + j then b + 32 else b
def lowB (b : UInt8) : UInt8 := lowTo b 26
def lower (l : List UInt8) : List UInt8 := l.map lowB

theorem caps_at (j : Nat) (h : j < 26) : ((⟨#[65, 66, 67, 68, 69, 70, 71, 72, 73, 74, 75, 76, 77, 78, 79, 80, 81, 82, 83, 84, 85, 86, 87, 88, 89, 90]⟩ : ByteArray)[j]'h).toNat = 65 + j :=
  (show ∀ j : Fin 26, ((⟨#[65, 66, 67, 68, 69, 70, 71, 72, 73, 74, 75, 76, 77, 78, 79, 80, 81, 82, 83, 84, 85, 86, 87, 88, 89, 90]⟩ : ByteArray)[j.val]'j.isLt).toNat = 65 + j.val by decide +kernel) ⟨j, h⟩
theorem lits_at (j : Nat) (h : j < 26) : ((⟨#[97, 98, 99, 100, 101, 102, 103, 104, 105, 106, 107, 108, 109, 110, 111, 112, 113, 114, 115, 116, 117, 118, 119, 120, 121, 122]⟩ : ByteArray).extract j (j + 1)).data.toList = [((97 + j).toUInt8)] :=
  (show ∀ j : Fin 26, ((⟨#[97, 98, 99, 100, 101, 102, 103, 104, 105, 106, 107, 108, 109, 110, 111, 112, 113, 114, 115, 116, 117, 118, 119, 120, 121, 122]⟩ : ByteArray).extract j.val (j.val + 1)).data.toList = [((97 + j.val).toUInt8)] by decide +kernel) ⟨j, h⟩
theorem lowTo_hit (b : UInt8) (j : Nat) (h : j < 26) (he : (((((⟨#[65, 66, 67, 68, 69, 70, 71, 72, 73, 74, 75, 76, 77, 78, 79, 80, 81, 82, 83, 84, 85, 86, 87, 88, 89, 90]⟩ : ByteArray)[j]'h).toNat : Nat) : Int) == (b.toNat : Int)) = true) :
    ((⟨#[97, 98, 99, 100, 101, 102, 103, 104, 105, 106, 107, 108, 109, 110, 111, 112, 113, 114, 115, 116, 117, 118, 119, 120, 121, 122]⟩ : ByteArray).extract j (j + 1)).data.toList = [lowTo b (j + 1)] := by
  rw [caps_at j h] at he
  have hb : b.toNat = 65 + j := by have := beq_iff_eq.1 he; omega
  rw [lits_at j h]
  unfold lowTo
  rw [if_pos (by omega)]
  have : (97 + j).toUInt8 = b + 32 := by
    apply UInt8.toNat_inj.1
    rw [UInt8.toNat_add, hb]
    simp
    omega
  rw [this]
theorem lowTo_miss (b : UInt8) (j : Nat) (h : j < 26) (he : (((((⟨#[65, 66, 67, 68, 69, 70, 71, 72, 73, 74, 75, 76, 77, 78, 79, 80, 81, 82, 83, 84, 85, 86, 87, 88, 89, 90]⟩ : ByteArray)[j]'h).toNat : Nat) : Int) == (b.toNat : Int)) = false) :
    lowTo b (j + 1) = lowTo b j := by
  rw [caps_at j h] at he
  have hb : ¬ b.toNat = 65 + j := by have := beq_eq_false_iff_ne.1 he; omega
  unfold lowTo
  by_cases hc : 65 ≤ b.toNat ∧ b.toNat < 65 + j
  · rw [if_pos hc, if_pos (by omega)]
  · rw [if_neg hc, if_neg (by omega)]
theorem lowTo_zero (b : UInt8) : lowTo b 0 = b := by unfold lowTo; rw [if_neg (by omega)]
theorem one_at (s : ByteArray) (k : Nat) (h : k < s.size) : (s.extract k (k + 1)).data.toList = [s[k]] := by
  rw [Lib.extract_data, show k + 1 - k = 1 by omega, List.drop_eq_getElem_cons (by simpa using h)]
  rfl
theorem lower_snoc (l : List UInt8) (b : UInt8) : lower (l ++ [b]) = lower l ++ [lowB b] := by simp [lower]
theorem lower_length (l : List UInt8) : (lower l).length = l.length := by simp [lower]
theorem data_append (a b : ByteArray) : (a ++ b).data.toList = a.data.toList ++ b.data.toList := by simp
theorem str_eq {x : ByteArray} {l : List UInt8} (h : x.data.toList = l) : x = ⟨l.toArray⟩ := by
  obtain ⟨⟨m⟩⟩ := x
  simp only at h
  rw [h]
theorem size_of_list {x : ByteArray} {l : List UInt8} (h : x.data.toList = l) : x.size = l.length := by rw [← h, len_list]

/-- the digits to the base 16 -/
def hexs : List UInt8 := [48, 49, 50, 51, 52, 53, 54, 55, 56, 57, 97, 98, 99, 100, 101, 102]
theorem hexs_at (j : Nat) (h : j < 16) : ((⟨#[48, 49, 50, 51, 52, 53, 54, 55, 56, 57, 97, 98, 99, 100, 101, 102]⟩ : ByteArray).extract j (j + 1)).data.toList = [hexs.getD j 0] :=
  (show ∀ j : Fin 16, ((⟨#[48, 49, 50, 51, 52, 53, 54, 55, 56, 57, 97, 98, 99, 100, 101, 102]⟩ : ByteArray).extract j.val (j.val + 1)).data.toList = [hexs.getD j.val 0] by decide +kernel) ⟨j, h⟩
theorem hexs_hit (b : UInt8) (j : Nat) (h : j < 16) (he : lowB b = hexs.getD j 0) : hex b.toNat = j := by
  have hb := b.toNat_lt
  have := (show ∀ (n : Fin 256) (j : Fin 16), lowB n.val.toUInt8 = hexs.getD j.val 0 → hex ((n.val.toUInt8).toNat : Int) = (j.val : Int) by decide +kernel) ⟨b.toNat, hb⟩ ⟨j, h⟩
  have e : b.toNat.toUInt8 = b := by simp
  simp only [e] at this
  exact this he
theorem hexs_miss (b : UInt8) (he : ∀ j, j < 16 → lowB b ≠ hexs.getD j 0) : hex b.toNat = -1 := by
  have hb := b.toNat_lt
  have := (show ∀ (n : Fin 256), (∀ j : Fin 16, lowB n.val.toUInt8 ≠ hexs.getD j.val 0) → hex ((n.val.toUInt8).toNat : Int) = -1 by decide +kernel) ⟨b.toNat, hb⟩
  have e : b.toNat.toUInt8 = b := by simp
  simp only [e] at this
  exact this fun j => he j.val j.isLt
theorem piece_eq (b : UInt8) (j : Nat) (h : j < 16) : ([lowB b] == ((⟨#[48, 49, 50, 51, 52, 53, 54, 55, 56, 57, 97, 98, 99, 100, 101, 102]⟩ : ByteArray).extract j (j + 1)).toList) = decide (lowB b = hexs.getD j 0) := by
  rw [Lib.toList_data, hexs_at j h]
  by_cases e : lowB b = hexs.getD j 0
  · rw [e]; simp
  · rw [decide_eq_false e]; exact beq_eq_false_iff_ne.2 (fun h => e (by simpa using h))
theorem lower_one (b : UInt8) : (⟨(lower [b]).toArray⟩ : ByteArray) = ⟨#[lowB b]⟩ := rfl
theorem digits_one (c : Int) : oneOf c [48, 49, 50, 51, 52, 53, 54, 55, 56, 57] = digit c := by
  unfold oneOf digit
  simp only [List.any_cons, List.any_nil, Bool.or_false]
  by_cases h : 48 ≤ c ∧ c ≤ 57
  · rw [decide_eq_true h.1, decide_eq_true h.2]
    have : c = 48 ∨ c = 49 ∨ c = 50 ∨ c = 51 ∨ c = 52 ∨ c = 53 ∨ c = 54 ∨ c = 55 ∨ c = 56 ∨ c = 57 := by omega
    rcases this with rfl | rfl | rfl | rfl | rfl | rfl | rfl | rfl | rfl | rfl <;> decide
  · have e : (decide (48 ≤ c) && decide (c ≤ 57)) = false := by
      by_cases h1 : 48 ≤ c
      · rw [decide_eq_false (show ¬ c ≤ 57 from fun h2 => h ⟨h1, h2⟩)]; simp
      · rw [decide_eq_false h1]; rfl
    rw [e]
    have hn : ∀ n : Nat, 48 ≤ n → n ≤ 57 → ((n : Int) == c) = false := fun n a b => beq_eq_false_iff_ne.2 (by omega)
    simp only [Bool.or_eq_false_iff]
    refine ⟨?_, ?_, ?_, ?_, ?_, ?_, ?_, ?_, ?_, ?_⟩ <;> exact hn _ (by decide) (by decide)
theorem dig10 (b : UInt8) : dig 10 b = digit b.toNat := by
  have hb := b.toNat_lt
  have := byteAll (p := fun c => (decide (0 ≤ hex c) && decide (hex c < 10)) == digit c) (by decide +kernel) b.toNat (by omega) (by omega)
  exact beq_iff_eq.1 this
theorem dig16 (b : UInt8) : dig 16 b = decide (0 ≤ hex b.toNat) := by
  have := hex_byte b
  unfold dig
  rw [decide_eq_true (show hex b.toNat < 16 by omega)]; simp

end Go.Proofs.Ytohddkniphcecab.Ch

/- Plain functions and laws: numbers as texts, blanks at both ends, small letters again. -/
namespace Go.Proofs.Ytohddkniphcecab.Ch

/-- a number in decimal, as far as its digits are at most f + 1 -/
def decF : Nat → Nat → List UInt8
  | 0, n => [(48 + n).toUInt8]
  | f + 1, n => if n < 10 then [(48 + n).toUInt8] else decF f (n / 10) ++ [(48 + n % 10).toUInt8]
/-- a number to the base 16 -/
def hexF : Nat → Nat → List UInt8
  | 0, n => [hexs.getD n 0]
  | f + 1, n => if n < 16 then [hexs.getD n 0] else hexF f (n / 16) ++ [hexs.getD (n % 16) 0]

theorem digs_at (j : Nat) (h : j < 10) : ((⟨#[48, 49, 50, 51, 52, 53, 54, 55, 56, 57]⟩ : ByteArray).extract j (j + 1)).data.toList = [(48 + j).toUInt8] :=
  (show ∀ j : Fin 10, ((⟨#[48, 49, 50, 51, 52, 53, 54, 55, 56, 57]⟩ : ByteArray).extract j.val (j.val + 1)).data.toList = [(48 + j.val).toUInt8] by decide +kernel) ⟨j, h⟩

theorem decF_length : ∀ f n, (decF f n).length ≤ f + 1 ∧ 1 ≤ (decF f n).length
  | 0, n => by simp [decF]
  | f + 1, n => by
    unfold decF
    split
    · simp
    · have := decF_length f (n / 10)
      simp; omega
theorem hexF_length : ∀ f n, (hexF f n).length ≤ f + 1 ∧ 1 ≤ (hexF f n).length
  | 0, n => by simp [hexF]
  | f + 1, n => by
    unfold hexF
    split
    · simp
    · have := hexF_length f (n / 16)
      simp; omega

theorem dec_dig (j : Nat) (h : j < 10) : dig 10 ((48 + j).toUInt8) = true ∧ hex ((48 + j).toUInt8).toNat = j :=
  (show ∀ j : Fin 10, dig 10 ((48 + j.val).toUInt8) = true ∧ hex ((48 + j.val).toUInt8).toNat = j.val by decide +kernel) ⟨j, h⟩
theorem hex_dig (j : Nat) (h : j < 16) : dig 16 (hexs.getD j 0) = true ∧ hex (hexs.getD j 0).toNat = j :=
  (show ∀ j : Fin 16, dig 16 (hexs.getD j.val 0) = true ∧ hex (hexs.getD j.val 0).toNat = j.val by decide +kernel) ⟨j, h⟩

theorem decF_num : ∀ f n, n < 10 ^ (f + 1) → (decF f n).all (dig 10) = true ∧ numOf 10 (decF f n) = n
  | 0, n, h => by
    have := dec_dig n (by simpa using h)
    simp only [decF, List.all_cons, List.all_nil, Bool.and_true, numOf, List.foldl_cons, List.foldl_nil]
    exact ⟨this.1, by rw [this.2]; omega⟩
  | f + 1, n, h => by
    unfold decF
    split
    · rename_i hn
      have := dec_dig n hn
      simp only [List.all_cons, List.all_nil, Bool.and_true, numOf, List.foldl_cons, List.foldl_nil]
      exact ⟨this.1, by rw [this.2]; omega⟩
    · have hq : n / 10 < 10 ^ (f + 1) := by
        rw [Nat.pow_succ] at h
        omega
      have ih := decF_num f (n / 10) hq
      have hr := dec_dig (n % 10) (by omega)
      rw [all_snoc, numOf_snoc, ih.1, ih.2, hr.1, hr.2]
      exact ⟨rfl, by omega⟩
theorem hexF_num : ∀ f n, n < 16 ^ (f + 1) → (hexF f n).all (dig 16) = true ∧ numOf 16 (hexF f n) = n
  | 0, n, h => by
    have := hex_dig n (by simpa using h)
    simp only [hexF, List.all_cons, List.all_nil, Bool.and_true, numOf, List.foldl_cons, List.foldl_nil]
    exact ⟨this.1, by rw [this.2]; omega⟩
  | f + 1, n, h => by
    unfold hexF
    split
    · rename_i hn
      have := hex_dig n hn
      simp only [List.all_cons, List.all_nil, Bool.and_true, numOf, List.foldl_cons, List.foldl_nil]
      exact ⟨this.1, by rw [this.2]; omega⟩
    · have hq : n / 16 < 16 ^ (f + 1) := by
        rw [Nat.pow_succ] at h
        omega
      have ih := hexF_num f (n / 16) hq
      have hr := hex_dig (n % 16) (by omega)
      rw [all_snoc, numOf_snoc, ih.1, ih.2, hr.1, hr.2]
      exact ⟨rfl, by omega⟩

theorem hexF_small (f n : Nat) (h : n < 16) : hexF f n = [hexs.getD n 0] := by
  cases f with
  | zero => rfl
  | succ f => unfold hexF; rw [if_pos h]
theorem hexF_succ (f n : Nat) (h : ¬ n < 16) : (hexF f (n / 16)) ++ (hexF f (n % 16)) = hexF (f + 1) n := by
  rw [hexF_small f (n % 16) (by omega)]
  conv => rhs; unfold hexF
  rw [if_neg h]

/-- a number's text is the number -/
theorem number_dec (n : Nat) (h : n < 1000000000) : number 10 9 (decF 8 n) = ((n : Int), true) := by
  have hl := decF_length 8 n
  have hn := decF_num 8 n (by simpa using h)
  rw [number_yes _ _ _ (by intro e; rw [e] at hl; simp at hl) (by omega) hn.1, hn.2]
theorem number_hex (n : Nat) (h : n < 16777216) : number 16 6 (hexF 5 n) = ((n : Int), true) := by
  have hl := hexF_length 5 n
  have hn := hexF_num 5 n (by simpa using h)
  rw [number_yes _ _ _ (by intro e; rw [e] at hl; simp at hl) (by omega) hn.1, hn.2]

theorem lowB_no (b : UInt8) (h : capital b.toNat = false) : lowB b = b := by
  unfold lowB lowTo
  rw [if_neg]
  intro hc
  unfold capital at h
  rw [decide_eq_true (by omega), decide_eq_true (by omega)] at h
  cases h
theorem lowB_yes (b : UInt8) (h : capital b.toNat = true) : ((lowB b).toNat : Int) = b.toNat - 65 + 97 := by
  unfold capital at h
  rw [Bool.and_eq_true, decide_eq_true_eq, decide_eq_true_eq] at h
  unfold lowB lowTo
  rw [if_pos (by omega), UInt8.toNat_add]
  have : (32 : UInt8).toNat = 32 := rfl
  rw [this]
  omega

/-- small letters again change nothing -/
theorem lowB_again (b : UInt8) : lowB (lowB b) = lowB b := by
  have hb := b.toNat_lt
  have := (show ∀ n : Fin 256, lowB (lowB n.val.toUInt8) = lowB n.val.toUInt8 by decide +kernel) ⟨b.toNat, hb⟩
  have e : b.toNat.toUInt8 = b := by simp
  simpa only [e] using this
theorem lower_again (l : List UInt8) : lower (lower l) = lower l := by
  simp only [lower, List.map_map]
  exact List.map_congr_left fun b _ => lowB_again b
theorem lowB_token (b : UInt8) : token (lowB b).toNat = token b.toNat := by
  have hb := b.toNat_lt
  have := (show ∀ n : Fin 256, token (lowB n.val.toUInt8).toNat = token (n.val.toUInt8).toNat by decide +kernel) ⟨b.toNat, hb⟩
  have e : b.toNat.toUInt8 = b := by simp
  simpa only [e] using this
theorem lower_token (l : List UInt8) : isToken (lower l) = isToken l := by
  unfold isToken lower
  rw [List.all_map]
  congr 1
  · simp
  · congr 1
    funext b
    exact lowB_token b

/-- blanks and tabs at both ends, from whichever end -/
theorem rdrop_cons (p : UInt8 → Bool) (a : UInt8) (t : List UInt8) :
    ((a :: t).reverse.dropWhile p).reverse = if ((t.reverse.dropWhile p).reverse) = [] then (if p a then [] else [a]) else a :: (t.reverse.dropWhile p).reverse := by
  rw [List.reverse_cons, List.dropWhile_append]
  by_cases h : (t.reverse.dropWhile p) = []
  · rw [h]
    simp [List.dropWhile]
    cases p a <;> simp
  · have h1 : (List.dropWhile p t.reverse).isEmpty = false := by
      cases h2 : List.dropWhile p t.reverse with
      | nil => exact absurd h2 h
      | cons _ _ => rfl
    rw [h1]
    simp [h]
theorem drop_both (p : UInt8 → Bool) : ∀ l : List UInt8, (((l.dropWhile p).reverse.dropWhile p).reverse) = ((l.reverse.dropWhile p).reverse).dropWhile p
  | [] => rfl
  | a :: t => by
    rw [rdrop_cons]
    cases hp : p a
    · rw [List.dropWhile_cons, hp]
      simp only [Bool.false_eq_true, if_false]
      rw [rdrop_cons]
      split <;> simp [hp]
    · rw [List.dropWhile_cons, hp]
      simp only [if_true]
      rw [drop_both p t]
      split
      · rename_i h
        rw [h]
      · rw [List.dropWhile_cons, hp]
        simp
def ws : List UInt8 := [32, 9]
theorem trim_both (l : List UInt8) : Lib.trimRightS (Lib.trimLeftS l ws) ws = Lib.trimS l ws := drop_both (ws.contains ·) l
theorem ws_eq (b : UInt8) : ws.contains b = (((b.toNat : Int) == 32) || ((b.toNat : Int) == 9)) := by
  have hb := b.toNat_lt
  have := (show ∀ n : Fin 256, ws.contains n.val.toUInt8 = ((((n.val.toUInt8).toNat : Int) == 32) || (((n.val.toUInt8).toNat : Int) == 9)) by decide +kernel) ⟨b.toNat, hb⟩
  have e : b.toNat.toUInt8 = b := by simp
  simpa only [e] using this
theorem head_list (x : ByteArray) (h : 0 < x.size) : x.data.toList = x[0] :: x.data.toList.drop 1 := by
  have := List.drop_eq_getElem_cons (l := x.data.toList) (i := 0) (by simpa using h)
  rw [List.drop_zero] at this
  exact this
theorem last_list (x : ByteArray) (h : 0 < x.size) : x.data.toList = x.data.toList.take (x.size - 1) ++ [x[x.size - 1]] := by
  have := take_snoc x (x.size - 1) (by omega)
  rw [← this, take_all x _ (by omega)]
theorem left_step (x : ByteArray) (h : 0 < x.size) (hp : ws.contains x[0] = true) : Lib.trimLeftS (x.data.toList.drop 1) ws = Lib.trimLeftS x.data.toList ws := by
  unfold Lib.trimLeftS
  conv => rhs; rw [head_list x h, List.dropWhile_cons, hp]
  rfl
theorem left_stop (x : ByteArray) (hp : ∀ h : 0 < x.size, ws.contains (x[0]'h) = false) : Lib.trimLeftS x.data.toList ws = x.data.toList := by
  unfold Lib.trimLeftS
  by_cases h : 0 < x.size
  · rw [head_list x h, List.dropWhile_cons, hp h]
    rfl
  · obtain rfl := empty_eq x (by omega)
    rfl
theorem right_step (x : ByteArray) (h : 0 < x.size) (hp : ws.contains (x[x.size - 1]'(by omega)) = true) : Lib.trimRightS (x.data.toList.take (x.size - 1)) ws = Lib.trimRightS x.data.toList ws := by
  unfold Lib.trimRightS
  conv => rhs; rw [last_list x h, List.reverse_append, List.reverse_cons, List.reverse_nil, List.nil_append, List.singleton_append, List.dropWhile_cons, hp]
  rfl
theorem right_stop (x : ByteArray) (hp : ∀ h : 0 < x.size, ws.contains (x[x.size - 1]'(by omega)) = false) : Lib.trimRightS x.data.toList ws = x.data.toList := by
  unfold Lib.trimRightS
  by_cases h : 0 < x.size
  · rw [last_list x h, List.reverse_append, List.reverse_cons, List.reverse_nil, List.nil_append, List.singleton_append, List.dropWhile_cons, hp h]
    simp
  · obtain rfl := empty_eq x (by omega)
    rfl

end Go.Proofs.Ytohddkniphcecab.Ch

/- Plain laws of values with parameters, with no program in them: blanks and words at a place of a text. -/
namespace Go.Proofs.Ytohddkniphcecab.Pm

def blank (c : UInt8) : Bool := c == 32 || c == 9
def tok (c : UInt8) : Bool := Ch.token c.toNat
/-- how many bytes from i on are such -/
def run (p : UInt8 → Bool) (l : List UInt8) (i : Nat) : Nat := ((l.drop i).takeWhile p).length
theorem run_step {p : UInt8 → Bool} {l : List UInt8} {i : Nat} (h : i < l.length) (hp : p l[i] = true) : run p l i = 1 + run p l (i + 1) := by
  unfold run
  rw [List.drop_eq_getElem_cons h, List.takeWhile_cons, hp]
  simp only [if_true, List.length_cons]
  omega
theorem run_stop {p : UInt8 → Bool} {l : List UInt8} {i : Nat} (h : i < l.length) (hp : p l[i] = false) : run p l i = 0 := by
  unfold run
  rw [List.drop_eq_getElem_cons h, List.takeWhile_cons, hp]
  rfl
theorem run_end (p : UInt8 → Bool) {l : List UInt8} {i : Nat} (h : l.length ≤ i) : run p l i = 0 := by
  unfold run
  rw [List.drop_eq_nil_of_le h]; rfl
theorem run_le (p : UInt8 → Bool) (l : List UInt8) (i : Nat) (h : i ≤ l.length) : i + run p l i ≤ l.length := by
  unfold run
  have := (List.takeWhile_prefix (l := l.drop i) p).length_le
  rw [List.length_drop] at this
  omega
/-- where the blanks end -/
def blanks (l : List UInt8) (i : Nat) : Nat := i + run blank l i
/-- how many bytes a word has -/
def word (l : List UInt8) (i : Nat) : Nat := run tok l i
end Go.Proofs.Ytohddkniphcecab.Pm

/- Plain laws of values with parameters, with no program in them: a value out of its text. -/
namespace Go.Proofs.Ytohddkniphcecab.Pm

theorem drop_run (p : UInt8 → Bool) (l : List UInt8) (i : Nat) : l.drop (i + run p l i) = (l.drop i).dropWhile p := by
  unfold run
  rw [← List.drop_drop]
  generalize l.drop i = t
  induction t with
  | nil => rfl
  | cons a t ih =>
    rw [List.takeWhile_cons, List.dropWhile_cons]
    cases p a
    · rfl
    · simpa using ih
theorem take_run (p : UInt8 → Bool) (l : List UInt8) (i : Nat) : (l.drop i).take (run p l i) = (l.drop i).takeWhile p := by
  unfold run
  generalize l.drop i = t
  induction t with
  | nil => rfl
  | cons a t ih =>
    rw [List.takeWhile_cons]
    cases p a
    · rfl
    · simpa using ih
/-- a name and a value -/
abbrev Par := List UInt8 × List UInt8
/-- a value that stands in quotes, behind the first of them; nothing: no quote comes -/
def quo : List UInt8 → List UInt8 → Option (List UInt8 × List UInt8)
  | _, [] => none
  | acc, c :: t => if c = 34 then some (acc, t) else if c = 92 then (match t with
      | [] => none
      | d :: t' => quo (acc ++ [d]) t') else quo (acc ++ [c]) t
theorem quo_nil (acc : List UInt8) : quo acc [] = none := by unfold quo; rfl
theorem quo_end (acc t : List UInt8) : quo acc (34 :: t) = some (acc, t) := by unfold quo; rw [if_pos rfl]
theorem quo_back_nil (acc : List UInt8) : quo acc [92] = none := by unfold quo; rw [if_neg (by decide), if_pos rfl]
theorem quo_back (acc : List UInt8) (d : UInt8) (t : List UInt8) : quo acc (92 :: d :: t) = quo (acc ++ [d]) t := by rw [quo, if_neg (by decide), if_pos rfl]
theorem quo_byte (acc : List UInt8) (c : UInt8) (t : List UInt8) (h1 : c ≠ 34) (h2 : c ≠ 92) : quo acc (c :: t) = quo (acc ++ [c]) t := by rw [quo.eq_def]; simp only []; rw [if_neg h1, if_neg h2]
theorem quo_short (n : Nat) : ∀ (acc t v r : List UInt8), t.length ≤ n → quo acc t = some (v, r) → r.length < t.length ∧ v.length ≤ acc.length + t.length := by
  induction n with
  | zero =>
    intro acc t v r h e
    obtain rfl : t = [] := List.eq_nil_of_length_eq_zero (by omega)
    rw [quo_nil] at e; cases e
  | succ n ih =>
    intro acc t v r h e
    cases t with
    | nil => rw [quo_nil] at e; cases e
    | cons c t =>
      by_cases h1 : c = 34
      · subst h1
        rw [quo_end] at e
        injection e with e; injection e with e1 e2
        subst e1; subst e2
        simp
      · by_cases h2 : c = 92
        · subst h2
          cases t with
          | nil => rw [quo_back_nil] at e; cases e
          | cons d t =>
            rw [quo_back] at e
            have := ih _ _ _ _ (by simp at h ⊢; omega) e
            simp at this ⊢; omega
        · rw [quo_byte _ _ _ h1 h2] at e
          have := ih _ _ _ _ (by simp at h ⊢; omega) e
          simp at this ⊢; omega
/-- the value of a parameter, behind its =: a code, or it and what is left -/
def val (r : List UInt8) : Nat ⊕ (List UInt8 × List UInt8) :=
  if r.head? = some 34 then (match quo [] r.tail with
    | none => .inl 14
    | some x => .inr x)
  else if r.takeWhile tok = [] then .inl 5 else .inr (r.takeWhile tok, r.dropWhile tok)
/-- one parameter, from its ; on: a code, or it and what is left -/
def par (r : List UInt8) : Nat ⊕ (Par × List UInt8) :=
  if r.head? = some 59 then
    let r2 := r.tail.dropWhile blank
    if r2.takeWhile tok = [] then .inl 5
    else if (r2.dropWhile tok).head? = some 61 then (match val (r2.dropWhile tok).tail with
      | .inl c => .inl c
      | .inr x => .inr ((Ch.lower (r2.takeWhile tok), x.1), x.2))
    else .inl 5
  else .inl 5
/-- all parameters; n: at most so many rounds -/
def pars : Nat → List UInt8 → List Par → Nat ⊕ List Par
  | 0, _, acc => .inr acc
  | n + 1, r, acc =>
    if r.dropWhile blank = [] then .inr acc
    else match par (r.dropWhile blank) with
      | .inl c => .inl c
      | .inr x => if acc.any (fun q => q.1 == x.1.1) then .inl 9 else if acc.length = 8 then .inl 8 else pars n x.2 (acc ++ [x.1])
/-- a value's word: a code, or it and what is left -/
def wrd (l : List UInt8) : Nat ⊕ (List UInt8 × List UInt8) :=
  let r := l.dropWhile blank
  if r.takeWhile tok = [] then .inl 5
  else if (r.dropWhile tok).head? = some 47 then
    (if (r.dropWhile tok).tail.takeWhile tok = [] then .inl 5
     else .inr (Ch.lower (r.takeWhile tok) ++ [47] ++ Ch.lower ((r.dropWhile tok).tail.takeWhile tok), (r.dropWhile tok).tail.dropWhile tok))
  else .inr (Ch.lower (r.takeWhile tok), r.dropWhile tok)
/-- a word, and all its parameters -/
def fin (n : Nat) (wd r : List UInt8) (acc : List Par) : Nat ⊕ (List UInt8 × List Par) := match pars n r acc with
  | .inl c => .inl c
  | .inr ps => .inr (wd, ps)
/-- a value with parameters: a code, or its word and its parameters -/
def media (l : List UInt8) : Nat ⊕ (List UInt8 × List Par) :=
  if Ch.isVisible l = false then .inl 3
  else match wrd l with
    | .inl c => .inl c
    | .inr x => fin (l.length + 1) x.1 x.2 []
/-! ### by places in a text -/
theorem blanks_drop (l : List UInt8) (i : Nat) : (l.drop i).dropWhile blank = l.drop (blanks l i) := (drop_run blank l i).symm
theorem word_drop (l : List UInt8) (i : Nat) : (l.drop i).dropWhile tok = l.drop (i + word l i) := (drop_run tok l i).symm
theorem word_take (l : List UInt8) (i : Nat) : (l.drop i).takeWhile tok = (l.drop i).take (word l i) := (take_run tok l i).symm
theorem word_nil (l : List UInt8) (i : Nat) : (l.drop i).takeWhile tok = [] ↔ word l i = 0 := by
  unfold word run
  constructor
  · intro h; rw [h]; rfl
  · intro h; exact List.eq_nil_of_length_eq_zero h
theorem word_nil' (l : List UInt8) (i : Nat) : ((l.drop i).take (word l i) = []) = (word l i = 0) := by
  rw [← word_take]; exact propext (word_nil l i)
theorem blanks_le (l : List UInt8) (i : Nat) (h : i ≤ l.length) : blanks l i ≤ l.length := run_le blank l i h
theorem blanks_ge (l : List UInt8) (i : Nat) : i ≤ blanks l i := Nat.le_add_right _ _
theorem word_le (l : List UInt8) (i : Nat) (h : i ≤ l.length) : i + word l i ≤ l.length := run_le tok l i h
theorem val_at (l : List UInt8) (i : Nat) : val (l.drop i) =
    if l[i]? = some 34 then (match quo [] (l.drop (i + 1)) with
      | none => .inl 14
      | some x => .inr x)
    else if word l i = 0 then .inl 5 else .inr ((l.drop i).take (word l i), l.drop (i + word l i)) := by
  unfold val
  simp only [List.head?_drop, List.tail_drop, word_take, word_drop, word_nil']
theorem par_at (l : List UInt8) (i : Nat) : par (l.drop i) =
    if l[i]? = some 59 then
      (if word l (blanks l (i + 1)) = 0 then .inl 5
       else if l[blanks l (i + 1) + word l (blanks l (i + 1))]? = some 61 then (match val (l.drop (blanks l (i + 1) + word l (blanks l (i + 1)) + 1)) with
         | .inl c => .inl c
         | .inr x => .inr ((Ch.lower ((l.drop (blanks l (i + 1))).take (word l (blanks l (i + 1)))), x.1), x.2))
       else .inl 5)
    else .inl 5 := by
  unfold par
  simp only [List.head?_drop, List.tail_drop, blanks_drop, word_drop, word_take, word_nil']
theorem pars_at (l : List UInt8) (n i : Nat) (acc : List Par) (hi : i ≤ l.length) : pars (n + 1) (l.drop i) acc =
    if blanks l i = l.length then .inr acc
    else match par (l.drop (blanks l i)) with
      | .inl c => .inl c
      | .inr x => if acc.any (fun q => q.1 == x.1.1) then .inl 9 else if acc.length = 8 then .inl 8 else pars n x.2 (acc ++ [x.1]) := by
  have hb := blanks_le l i hi
  rw [pars, blanks_drop]
  by_cases h : blanks l i = l.length
  · rw [if_pos h, if_pos (by rw [h, List.drop_length])]
  · rw [if_neg h, if_neg (fun e => h (by have := congrArg List.length e; rw [List.length_drop] at this; simp at this; omega))]
theorem wrd_at (l : List UInt8) : wrd l =
    if word l (blanks l 0) = 0 then .inl 5
    else if l[blanks l 0 + word l (blanks l 0)]? = some 47 then
      (if word l (blanks l 0 + word l (blanks l 0) + 1) = 0 then .inl 5
       else .inr (Ch.lower ((l.drop (blanks l 0)).take (word l (blanks l 0))) ++ [47] ++ Ch.lower ((l.drop (blanks l 0 + word l (blanks l 0) + 1)).take (word l (blanks l 0 + word l (blanks l 0) + 1))), l.drop (blanks l 0 + word l (blanks l 0) + 1 + word l (blanks l 0 + word l (blanks l 0) + 1))))
    else .inr (Ch.lower ((l.drop (blanks l 0)).take (word l (blanks l 0))), l.drop (blanks l 0 + word l (blanks l 0))) := by
  unfold wrd
  have e : l.dropWhile blank = l.drop (blanks l 0) := by have := blanks_drop l 0; rwa [List.drop_zero] at this
  simp only [e, word_drop, List.head?_drop, List.tail_drop, word_take, word_nil']
theorem media_at (l : List UInt8) (hv : Ch.isVisible l = true) (i0 n0 : Nat) (hi : blanks l 0 = i0) (hn : word l i0 = n0) : media l =
    if n0 = 0 then .inl 5
    else if l[i0 + n0]? = some 47 then
      (if word l (i0 + n0 + 1) = 0 then .inl 5
       else fin (l.length + 1) (Ch.lower ((l.drop i0).take n0) ++ [47] ++ Ch.lower ((l.drop (i0 + n0 + 1)).take (word l (i0 + n0 + 1)))) (l.drop (i0 + n0 + 1 + word l (i0 + n0 + 1))) [])
    else fin (l.length + 1) (Ch.lower ((l.drop i0).take n0)) (l.drop (i0 + n0)) [] := by
  unfold media
  rw [if_neg (by rw [hv]; simp), wrd_at, hi, hn]
  by_cases h : n0 = 0
  · rw [if_pos h, if_pos h]
  · rw [if_neg h, if_neg h]
    by_cases h47 : l[i0 + n0]? = some 47
    · rw [if_pos h47, if_pos h47]
      by_cases h2 : word l (i0 + n0 + 1) = 0
      · rw [if_pos h2, if_pos h2]
      · rw [if_neg h2, if_neg h2]
    · rw [if_neg h47, if_neg h47]
theorem fin_at (l : List UInt8) (n i : Nat) (wd : List UInt8) (acc : List Par) (hi : i ≤ l.length) : fin (n + 1) wd (l.drop i) acc =
    if blanks l i = l.length then .inr (wd, acc)
    else match par (l.drop (blanks l i)) with
      | .inl c => .inl c
      | .inr x => if acc.any (fun q => q.1 == x.1.1) then .inl 9 else if acc.length = 8 then .inl 8 else fin n wd x.2 (acc ++ [x.1]) := by
  unfold fin
  rw [pars_at l n i acc hi]
  by_cases h : blanks l i = l.length
  · rw [if_pos h, if_pos h]
  · rw [if_neg h, if_neg h]
    cases par (l.drop (blanks l i)) with
    | inl c => rfl
    | inr x =>
      simp only []
      by_cases h1 : (acc.any fun q => q.1 == x.1.1) = true
      · rw [if_pos h1, if_pos h1]
      · rw [if_neg h1, if_neg h1]
        by_cases h2 : acc.length = 8
        · rw [if_pos h2, if_pos h2]
        · rw [if_neg h2, if_neg h2]
end Go.Proofs.Ytohddkniphcecab.Pm
