/- Small texts, one behind the other: PlainA, PlainB, PlainF, PlainRp, PlainL, PlainN, PlainLT, PlainCK, PlainCL, PlainCG, PlainCB, PlainCW. -/
import Derived.Lib.SlTrimSet
import Derived.Lib.IndexLaws
import Derived.Lib.Strings
import Derived.Below
/- Plain functions on bytes and texts, with no program in them: what package chars and the document's own answer come to. -/
namespace Go.Proofs.YtjhbiipbmlpgoaaDoor.Ch

def digit (c : Int) : Bool := decide (48 ≤ c) && decide (c ≤ 57)
def capital (c : Int) : Bool := decide (65 ≤ c) && decide (c ≤ 90)
def letter (c : Int) : Bool := (decide (97 ≤ c) && decide (c ≤ 122)) || capital c
def visible (c : Int) : Bool := c == 9 || (decide (32 ≤ c) && c != 127)
/-- the marks that may stand in a token beside digits and letters -/
def marks : List UInt8 := [33, 35, 36, 37, 38, 39, 42, 43, 45, 46, 94, 95, 96, 124, 126]
def token (c : Int) : Bool := digit c || letter c || decide (0 ≤ Lib.indexByte marks c.toNat.toUInt8)
def oneOf (c : Int) (l : List UInt8) : Bool := l.any fun b => (b.toNat : Int) == c
def hex (c : Int) : Int := if digit c then c - 48 else if decide (97 ≤ c) && decide (c ≤ 102) then c - 87 else if decide (65 ≤ c) && decide (c ≤ 70) then c - 55 else -1

theorem byteAll {p : Int → Bool} (h : (List.range 256).all (fun n => p (n : Int)) = true) (c : Int) (h0 : 0 ≤ c) (h1 : c ≤ 255) : p c = true := by
  obtain ⟨n, rfl⟩ := Int.eq_ofNat_of_zero_le h0
  exact List.all_eq_true.1 h n (List.mem_range.2 (by omega))

/-- all bytes that may stand in a token, as the document's own answer lists them -/
def tokens : List UInt8 := [48, 49, 50, 51, 52, 53, 54, 55, 56, 57, 65, 66, 67, 68, 69, 70, 71, 72, 73, 74, 75, 76, 77, 78, 79, 80, 81, 82, 83, 84, 85, 86, 87, 88, 89, 90, 97, 98, 99, 100, 101, 102, 103, 104, 105, 106, 107, 108, 109, 110, 111, 112, 113, 114, 115, 116, 117, 118, 119, 120, 121, 122, 33, 35, 36, 37, 38, 39, 42, 43, 45, 46, 94, 95, 96, 124, 126]
theorem oneOf_tokens (c : Int) (h0 : 0 ≤ c) (h1 : c ≤ 255) : oneOf c tokens = token c := by
  have := byteAll (p := fun c => oneOf c tokens == token c) (by decide +kernel) c h0 h1
  simpa using this
def isToken (l : List UInt8) : Bool := !l.isEmpty && l.all fun b => token b.toNat
def allToken (l : List UInt8) : Bool := l.all fun b => token b.toNat
def isVisible (l : List UInt8) : Bool := l.all fun b => visible b.toNat

theorem hex_range (c : Int) (h0 : 0 ≤ c) (h1 : c ≤ 255) : -1 ≤ hex c ∧ hex c ≤ 15 := by
  have := byteAll (p := fun c => decide (-1 ≤ hex c ∧ hex c ≤ 15)) (by decide +kernel) c h0 h1
  simpa using this

theorem oneOf_snoc (c : Int) (l : List UInt8) (b : UInt8) : oneOf c (l ++ [b]) = (oneOf c l || ((b.toNat : Int) == c)) := by
  simp [oneOf]

theorem take_snoc (s : ByteArray) (k : Nat) (h : k < s.size) : s.data.toList.take (k + 1) = s.data.toList.take k ++ [s[k]] := by
  rw [List.take_succ_eq_append_getElem (by simpa using h)]; rfl

theorem take_all (s : ByteArray) (k : Nat) (h : s.size ≤ k) : s.data.toList.take k = s.data.toList :=
  List.take_of_length_le (by simpa using h)

/-- is there one, once it was met -/
theorem any_of_take (p : UInt8 → Bool) (s : ByteArray) (k : Nat) (h : k < s.size) (hp : p s[k] = true) : s.data.toList.any p = true := by
  rw [List.any_eq_true]
  exact ⟨s[k], by
    have : s[k] = s.data.toList[k]'(by simpa using h) := rfl
    rw [this]; exact List.getElem_mem _, hp⟩

theorem all_of_take (p : UInt8 → Bool) (s : ByteArray) (k : Nat) (h : k < s.size) (hp : p s[k] = false) : s.data.toList.all p = false := by
  rw [Bool.eq_false_iff, Ne, List.all_eq_true]
  intro hall
  have := hall s[k] (by
    have : s[k] = s.data.toList[k]'(by simpa using h) := rfl
    rw [this]; exact List.getElem_mem _)
  rw [this] at hp; cases hp

/-- a digit to a base -/
def dig (base : Int) (b : UInt8) : Bool := decide (0 ≤ hex b.toNat) && decide (hex b.toNat < base)
def numOf (base : Int) (l : List UInt8) : Int := l.foldl (fun n b => n * base + hex b.toNat) 0
def number (base most : Int) (l : List UInt8) : Int × Bool :=
  if l = [] ∨ most < l.length then (0, false) else if l.all (dig base) then (numOf base l, true) else (0, false)

theorem numOf_snoc (base : Int) (l : List UInt8) (b : UInt8) : numOf base (l ++ [b]) = numOf base l * base + hex b.toNat := by
  simp [numOf]

theorem hex_byte (b : UInt8) : -1 ≤ hex b.toNat ∧ hex b.toNat ≤ 15 := hex_range _ (by omega) (by have := b.toNat_lt; omega)

theorem numOf_aux (base : Int) (hb0 : 0 ≤ base) (hb1 : base ≤ 16) : ∀ (l : List UInt8) (n : Int) (B : Nat), 0 ≤ n → n < 16 ^ B → l.all (dig base) = true →
    0 ≤ l.foldl (fun n b => n * base + hex b.toNat) n ∧ l.foldl (fun n b => n * base + hex b.toNat) n < 16 ^ (B + l.length)
  | [], n, B, h0, h1, _ => ⟨h0, h1⟩
  | b :: l, n, B, h0, h1, hl => by
    rw [List.all_cons, Bool.and_eq_true] at hl
    have hx := hex_byte b
    have hd : 0 ≤ hex b.toNat := by
      have := hl.1; unfold dig at this; rw [Bool.and_eq_true] at this; exact of_decide_eq_true this.1
    have p0 : 0 ≤ n * base := Int.mul_nonneg h0 hb0
    have p1 : n * base ≤ n * 16 := Int.mul_le_mul_of_nonneg_left hb1 h0
    have e : (16 : Int) ^ (B + 1) = 16 ^ B * 16 := Int.pow_succ ..
    have := numOf_aux base hb0 hb1 l (n * base + hex b.toNat) (B + 1) (by omega) (by omega) hl.2
    rw [List.foldl_cons, List.length_cons, show B + (l.length + 1) = B + 1 + l.length by omega]
    exact this

theorem numOf_bound (base : Int) (hb0 : 0 ≤ base) (hb1 : base ≤ 16) (l : List UInt8) (hl : l.all (dig base) = true) (h9 : l.length ≤ 9) : 0 ≤ numOf base l ∧ numOf base l < 68719476736 := by
  have h := numOf_aux base hb0 hb1 l 0 0 (Int.le_refl _) (by decide) hl
  have : (16 : Int) ^ (0 + l.length) ≤ 16 ^ 9 := by
    have : (16 : Nat) ^ (0 + l.length) ≤ 16 ^ 9 := Nat.pow_le_pow_right (by decide) (by omega)
    exact_mod_cast this
  have e : (16 : Int) ^ 9 = 68719476736 := by decide
  exact ⟨h.1, by have := h.2; unfold numOf; omega⟩

theorem all_snoc (p : UInt8 → Bool) (l : List UInt8) (b : UInt8) : (l ++ [b]).all p = (l.all p && p b) := by simp

theorem number_short (base most : Int) (l : List UInt8) (h : l = [] ∨ most < l.length) : number base most l = (0, false) := by unfold number; rw [if_pos h]
theorem number_no (base most : Int) (l : List UInt8) (h : l.all (dig base) = false) : number base most l = (0, false) := by
  unfold number; split
  · rfl
  · rw [h]; rfl
theorem number_yes (base most : Int) (l : List UInt8) (h1 : l ≠ []) (h2 : ¬ most < l.length) (h : l.all (dig base) = true) : number base most l = (numOf base l, true) := by
  unfold number; rw [if_neg (by simp [h1, h2]), h]; rfl

theorem len_list (s : ByteArray) : s.data.toList.length = s.size := by simp
theorem ne_nil (s : ByteArray) (h : 0 < s.size) : s.data.toList ≠ [] := by
  intro e; have := len_list s; rw [e] at this; simp at this; omega
theorem empty_eq (s : ByteArray) (h : s.size = 0) : s = ⟨#[]⟩ := by
  apply ByteArray.ext; exact Array.eq_empty_of_size_eq_zero h
theorem isEmpty_false (s : ByteArray) (h : 0 < s.size) : s.toList.isEmpty = false := by
  rw [Lib.toList_data]
  cases h' : s.data.toList with
  | nil => exact absurd h' (ne_nil s h)
  | cons _ _ => rfl

/-- a byte in small letters; as far as the first j capitals are looked at -/
def lowTo (b : UInt8) (j : Nat) : UInt8 := if 65 ≤ b.toNat ∧ b.toNat < 65 + j then b + 32 else b
def lowB (b : UInt8) : UInt8 := lowTo b 26
def lower (l : List UInt8) : List UInt8 := l.map lowB

theorem caps_at (j : Nat) (h : j < 26) : ((⟨#[65, 66, 67, 68, 69, 70, 71, 72, 73, 74, 75, 76, 77, 78, 79, 80, 81, 82, 83, 84, 85, 86, 87, 88, 89, 90]⟩ : ByteArray)[j]'h).toNat = 65 + j :=
  (show ∀ j : Fin 26, ((⟨#[65, 66, 67, 68, 69, 70, 71, 72, 73, 74, 75, 76, 77, 78, 79, 80, 81, 82, 83, 84, 85, 86, 87, 88, 89, 90]⟩ : ByteArray)[j.val]'j.isLt).toNat = 65 + j.val by decide +kernel) ⟨j, h⟩
theorem lits_at (j : Nat) (h : j < 26) : ((⟨#[97, 98, 99, 100, 101, 102, 103, 104, 105, 106, 107, 108, 109, 110, 111, 112, 113, 114, 115, 116, 117, 118, 119, 120, 121, 122]⟩ : ByteArray).extract j (j + 1)).data.toList = [((97 + j).toUInt8)] :=
  (show ∀ j : Fin 26, ((⟨#[97, 98, 99, 100, 101, 102, 103, 104, 105, 106, 107, 108, 109, 110, 111, 112, 113, 114, 115, 116, 117, 118, 119, 120, 121, 122]⟩ : ByteArray).extract j.val (j.val + 1)).data.toList = [((97 + j.val).toUInt8)] by decide +kernel) ⟨j, h⟩
theorem lowTo_hit (b : UInt8) (j : Nat) (h : j < 26) (he : (((((⟨#[65, 66, 67, 68, 69, 70, 71, 72, 73, 74, 75, 76, 77, 78, 79, 80, 81, 82, 83, 84, 85, 86, 87, 88, 89, 90]⟩ : ByteArray)[j]'h).toNat : Nat) : Int) == (b.toNat : Int)) = true) :
    ((⟨#[97, 98, 99, 100, 101, 102, 103, 104, 105, 106, 107, 108, 109, 110, 111, 112, 113, 114, 115, 116, 117, 118, 119, 120, 121, 122]⟩ : ByteArray).extract j (j + 1)).data.toList = [lowTo b (j + 1)] := by
  rw [caps_at j h] at he
  have hb : b.toNat = 65 + j := by have := beq_iff_eq.1 he; omega
  rw [lits_at j h]
  unfold lowTo
  rw [if_pos (by omega)]
  have : (97 + j).toUInt8 = b + 32 := by
    apply UInt8.toNat_inj.1
    rw [UInt8.toNat_add, hb]
    simp
    omega
  rw [this]
theorem lowTo_miss (b : UInt8) (j : Nat) (h : j < 26) (he : (((((⟨#[65, 66, 67, 68, 69, 70, 71, 72, 73, 74, 75, 76, 77, 78, 79, 80, 81, 82, 83, 84, 85, 86, 87, 88, 89, 90]⟩ : ByteArray)[j]'h).toNat : Nat) : Int) == (b.toNat : Int)) = false) :
    lowTo b (j + 1) = lowTo b j := by
  rw [caps_at j h] at he
  have hb : ¬ b.toNat = 65 + j := by have := beq_eq_false_iff_ne.1 he; omega
  unfold lowTo
  by_cases hc : 65 ≤ b.toNat ∧ b.toNat < 65 + j
  · rw [if_pos hc, if_pos (by omega)]
  · rw [if_neg hc, if_neg (by omega)]
theorem lowTo_zero (b : UInt8) : lowTo b 0 = b := by unfold lowTo; rw [if_neg (by omega)]
theorem one_at (s : ByteArray) (k : Nat) (h : k < s.size) : (s.extract k (k + 1)).data.toList = [s[k]] := by
  rw [Lib.extract_data, show k + 1 - k = 1 by omega, List.drop_eq_getElem_cons (by simpa using h)]
  rfl
theorem lower_snoc (l : List UInt8) (b : UInt8) : lower (l ++ [b]) = lower l ++ [lowB b] := by simp [lower]
theorem lower_length (l : List UInt8) : (lower l).length = l.length := by simp [lower]
theorem data_append (a b : ByteArray) : (a ++ b).data.toList = a.data.toList ++ b.data.toList := by simp
theorem str_eq {x : ByteArray} {l : List UInt8} (h : x.data.toList = l) : x = ⟨l.toArray⟩ := by
  obtain ⟨⟨m⟩⟩ := x
  simp only at h
  rw [h]
theorem size_of_list {x : ByteArray} {l : List UInt8} (h : x.data.toList = l) : x.size = l.length := by rw [← h, len_list]

/-- the digits to the base 16 -/
def hexs : List UInt8 := [48, 49, 50, 51, 52, 53, 54, 55, 56, 57, 97, 98, 99, 100, 101, 102]
theorem hexs_at (j : Nat) (h : j < 16) : ((⟨#[48, 49, 50, 51, 52, 53, 54, 55, 56, 57, 97, 98, 99, 100, 101, 102]⟩ : ByteArray).extract j (j + 1)).data.toList = [hexs.getD j 0] :=
  (show ∀ j : Fin 16, ((⟨#[48, 49, 50, 51, 52, 53, 54, 55, 56, 57, 97, 98, 99, 100, 101, 102]⟩ : ByteArray).extract j.val (j.val + 1)).data.toList = [hexs.getD j.val 0] by decide +kernel) ⟨j, h⟩
theorem hexs_hit (b : UInt8) (j : Nat) (h : j < 16) (he : lowB b = hexs.getD j 0) : hex b.toNat = j := by
  have hb := b.toNat_lt
  have := (show ∀ (n : Fin 256) (j : Fin 16), lowB n.val.toUInt8 = hexs.getD j.val 0 → hex ((n.val.toUInt8).toNat : Int) = (j.val : Int) by decide +kernel) ⟨b.toNat, hb⟩ ⟨j, h⟩
  have e : b.toNat.toUInt8 = b := by simp
  simp only [e] at this
  exact this he
theorem hexs_miss (b : UInt8) (he : ∀ j, j < 16 → lowB b ≠ hexs.getD j 0) : hex b.toNat = -1 := by
  have hb := b.toNat_lt
  have := (show ∀ (n : Fin 256), (∀ j : Fin 16, lowB n.val.toUInt8 ≠ hexs.getD j.val 0) → hex ((n.val.toUInt8).toNat : Int) = -1 by decide +kernel) ⟨b.toNat, hb⟩
  have e : b.toNat.toUInt8 = b := by simp
  simp only [e] at this
  exact this fun j => he j.val j.isLt
theorem piece_eq (b : UInt8) (j : Nat) (h : j < 16) : ([lowB b] == ((⟨#[48, 49, 50, 51, 52, 53, 54, 55, 56, 57, 97, 98, 99, 100, 101, 102]⟩ : ByteArray).extract j (j + 1)).toList) = decide (lowB b = hexs.getD j 0) := by
  rw [Lib.toList_data, hexs_at j h]
  by_cases e : lowB b = hexs.getD j 0
  · rw [e]; simp
  · rw [decide_eq_false e]; exact beq_eq_false_iff_ne.2 (fun h => e (by simpa using h))
theorem lower_one (b : UInt8) : (⟨(lower [b]).toArray⟩ : ByteArray) = ⟨#[lowB b]⟩ := rfl
theorem digits_one (c : Int) : oneOf c [48, 49, 50, 51, 52, 53, 54, 55, 56, 57] = digit c := by
  unfold oneOf digit
  simp only [List.any_cons, List.any_nil, Bool.or_false]
  by_cases h : 48 ≤ c ∧ c ≤ 57
  · rw [decide_eq_true h.1, decide_eq_true h.2]
    have : c = 48 ∨ c = 49 ∨ c = 50 ∨ c = 51 ∨ c = 52 ∨ c = 53 ∨ c = 54 ∨ c = 55 ∨ c = 56 ∨ c = 57 := by omega
    rcases this with rfl | rfl | rfl | rfl | rfl | rfl | rfl | rfl | rfl | rfl <;> decide
  · have e : (decide (48 ≤ c) && decide (c ≤ 57)) = false := by
      by_cases h1 : 48 ≤ c
      · rw [decide_eq_false (show ¬ c ≤ 57 from fun h2 => h ⟨h1, h2⟩)]; simp
      · rw [decide_eq_false h1]; rfl
    rw [e]
    have hn : ∀ n : Nat, 48 ≤ n → n ≤ 57 → ((n : Int) == c) = false := fun n a b => beq_eq_false_iff_ne.2 (by omega)
    simp only [Bool.or_eq_false_iff]
    refine ⟨?_, ?_, ?_, ?_, ?_, ?_, ?_, ?_, ?_, ?_⟩ <;> exact hn _ (by decide) (by decide)
theorem dig10 (b : UInt8) : dig 10 b = digit b.toNat := by
  have hb := b.toNat_lt
  have := byteAll (p := fun c => (decide (0 ≤ hex c) && decide (hex c < 10)) == digit c) (by decide +kernel) b.toNat (by omega) (by omega)
  exact beq_iff_eq.1 this
theorem dig16 (b : UInt8) : dig 16 b = decide (0 ≤ hex b.toNat) := by
  have := hex_byte b
  unfold dig
  rw [decide_eq_true (show hex b.toNat < 16 by omega)]; simp

end Go.Proofs.YtjhbiipbmlpgoaaDoor.Ch

/- Plain functions and laws: numbers as texts, blanks at both ends, small letters again. -/
namespace Go.Proofs.YtjhbiipbmlpgoaaDoor.Ch

/-- a number in decimal, as far as its digits are at most f + 1 -/
def decF : Nat → Nat → List UInt8
  | 0, n => [(48 + n).toUInt8]
  | f + 1, n => if n < 10 then [(48 + n).toUInt8] else decF f (n / 10) ++ [(48 + n % 10).toUInt8]
/-- a number to the base 16 -/
def hexF : Nat → Nat → List UInt8
  | 0, n => [hexs.getD n 0]
  | f + 1, n => if n < 16 then [hexs.getD n 0] else hexF f (n / 16) ++ [hexs.getD (n % 16) 0]

theorem digs_at (j : Nat) (h : j < 10) : ((⟨#[48, 49, 50, 51, 52, 53, 54, 55, 56, 57]⟩ : ByteArray).extract j (j + 1)).data.toList = [(48 + j).toUInt8] :=
  (show ∀ j : Fin 10, ((⟨#[48, 49, 50, 51, 52, 53, 54, 55, 56, 57]⟩ : ByteArray).extract j.val (j.val + 1)).data.toList = [(48 + j.val).toUInt8] by decide +kernel) ⟨j, h⟩

theorem decF_length : ∀ f n, (decF f n).length ≤ f + 1 ∧ 1 ≤ (decF f n).length
  | 0, n => by simp [decF]
  | f + 1, n => by
    unfold decF
    split
    · simp
    · have := decF_length f (n / 10)
      simp; omega
theorem hexF_length : ∀ f n, (hexF f n).length ≤ f + 1 ∧ 1 ≤ (hexF f n).length
  | 0, n => by simp [hexF]
  | f + 1, n => by
    unfold hexF
    split
    · simp
    · have := hexF_length f (n / 16)
      simp; omega

theorem dec_dig (j : Nat) (h : j < 10) : dig 10 ((48 + j).toUInt8) = true ∧ hex ((48 + j).toUInt8).toNat = j :=
  (show ∀ j : Fin 10, dig 10 ((48 + j.val).toUInt8) = true ∧ hex ((48 + j.val).toUInt8).toNat = j.val by decide +kernel) ⟨j, h⟩
theorem hex_dig (j : Nat) (h : j < 16) : dig 16 (hexs.getD j 0) = true ∧ hex (hexs.getD j 0).toNat = j :=
  (show ∀ j : Fin 16, dig 16 (hexs.getD j.val 0) = true ∧ hex (hexs.getD j.val 0).toNat = j.val by decide +kernel) ⟨j, h⟩

theorem decF_num : ∀ f n, n < 10 ^ (f + 1) → (decF f n).all (dig 10) = true ∧ numOf 10 (decF f n) = n
  | 0, n, h => by
    have := dec_dig n (by simpa using h)
    simp only [decF, List.all_cons, List.all_nil, Bool.and_true, numOf, List.foldl_cons, List.foldl_nil]
    exact ⟨this.1, by rw [this.2]; omega⟩
  | f + 1, n, h => by
    unfold decF
    split
    · rename_i hn
      have := dec_dig n hn
      simp only [List.all_cons, List.all_nil, Bool.and_true, numOf, List.foldl_cons, List.foldl_nil]
      exact ⟨this.1, by rw [this.2]; omega⟩
    · have hq : n / 10 < 10 ^ (f + 1) := by
        rw [Nat.pow_succ] at h
        omega
      have ih := decF_num f (n / 10) hq
      have hr := dec_dig (n % 10) (by omega)
      rw [all_snoc, numOf_snoc, ih.1, ih.2, hr.1, hr.2]
      exact ⟨rfl, by omega⟩
theorem hexF_num : ∀ f n, n < 16 ^ (f + 1) → (hexF f n).all (dig 16) = true ∧ numOf 16 (hexF f n) = n
  | 0, n, h => by
    have := hex_dig n (by simpa using h)
    simp only [hexF, List.all_cons, List.all_nil, Bool.and_true, numOf, List.foldl_cons, List.foldl_nil]
    exact ⟨this.1, by rw [this.2]; omega⟩
  | f + 1, n, h => by
    unfold hexF
    split
    · rename_i hn
      have := hex_dig n hn
      simp only [List.all_cons, List.all_nil, Bool.and_true, numOf, List.foldl_cons, List.foldl_nil]
      exact ⟨this.1, by rw [this.2]; omega⟩
    · have hq : n / 16 < 16 ^ (f + 1) := by
        rw [Nat.pow_succ] at h
        omega
      have ih := hexF_num f (n / 16) hq
      have hr := hex_dig (n % 16) (by omega)
      rw [all_snoc, numOf_snoc, ih.1, ih.2, hr.1, hr.2]
      exact ⟨rfl, by omega⟩

theorem hexF_small (f n : Nat) (h : n < 16) : hexF f n = [hexs.getD n 0] := by
  cases f with
  | zero => rfl
  | succ f => unfold hexF; rw [if_pos h]
theorem hexF_succ (f n : Nat) (h : ¬ n < 16) : (hexF f (n / 16)) ++ (hexF f (n % 16)) = hexF (f + 1) n := by
  rw [hexF_small f (n % 16) (by omega)]
  conv => rhs; unfold hexF
  rw [if_neg h]

/-- a number's text is the number -/
theorem number_dec (n : Nat) (h : n < 1000000000) : number 10 9 (decF 8 n) = ((n : Int), true) := by
  have hl := decF_length 8 n
  have hn := decF_num 8 n (by simpa using h)
  rw [number_yes _ _ _ (by intro e; rw [e] at hl; simp at hl) (by omega) hn.1, hn.2]
theorem number_hex (n : Nat) (h : n < 16777216) : number 16 6 (hexF 5 n) = ((n : Int), true) := by
  have hl := hexF_length 5 n
  have hn := hexF_num 5 n (by simpa using h)
  rw [number_yes _ _ _ (by intro e; rw [e] at hl; simp at hl) (by omega) hn.1, hn.2]

theorem lowB_no (b : UInt8) (h : capital b.toNat = false) : lowB b = b := by
  unfold lowB lowTo
  rw [if_neg]
  intro hc
  unfold capital at h
  rw [decide_eq_true (by omega), decide_eq_true (by omega)] at h
  cases h
theorem lowB_yes (b : UInt8) (h : capital b.toNat = true) : ((lowB b).toNat : Int) = b.toNat - 65 + 97 := by
  unfold capital at h
  rw [Bool.and_eq_true, decide_eq_true_eq, decide_eq_true_eq] at h
  unfold lowB lowTo
  rw [if_pos (by omega), UInt8.toNat_add]
  have : (32 : UInt8).toNat = 32 := rfl
  rw [this]
  omega

/-- small letters again change nothing -/
theorem lowB_again (b : UInt8) : lowB (lowB b) = lowB b := by
  have hb := b.toNat_lt
  have := (show ∀ n : Fin 256, lowB (lowB n.val.toUInt8) = lowB n.val.toUInt8 by decide +kernel) ⟨b.toNat, hb⟩
  have e : b.toNat.toUInt8 = b := by simp
  simpa only [e] using this
theorem lower_again (l : List UInt8) : lower (lower l) = lower l := by
  simp only [lower, List.map_map]
  exact List.map_congr_left fun b _ => lowB_again b
theorem lowB_token (b : UInt8) : token (lowB b).toNat = token b.toNat := by
  have hb := b.toNat_lt
  have := (show ∀ n : Fin 256, token (lowB n.val.toUInt8).toNat = token (n.val.toUInt8).toNat by decide +kernel) ⟨b.toNat, hb⟩
  have e : b.toNat.toUInt8 = b := by simp
  simpa only [e] using this
theorem lower_token (l : List UInt8) : isToken (lower l) = isToken l := by
  unfold isToken lower
  rw [List.all_map]
  congr 1
  · simp
  · congr 1
    funext b
    exact lowB_token b

/-- blanks and tabs at both ends, from whichever end -/
theorem rdrop_cons (p : UInt8 → Bool) (a : UInt8) (t : List UInt8) :
    ((a :: t).reverse.dropWhile p).reverse = if ((t.reverse.dropWhile p).reverse) = [] then (if p a then [] else [a]) else a :: (t.reverse.dropWhile p).reverse := by
  rw [List.reverse_cons, List.dropWhile_append]
  by_cases h : (t.reverse.dropWhile p) = []
  · rw [h]
    simp [List.dropWhile]
    cases p a <;> simp
  · have h1 : (List.dropWhile p t.reverse).isEmpty = false := by
      cases h2 : List.dropWhile p t.reverse with
      | nil => exact absurd h2 h
      | cons _ _ => rfl
    rw [h1]
    simp [h]
theorem drop_both (p : UInt8 → Bool) : ∀ l : List UInt8, (((l.dropWhile p).reverse.dropWhile p).reverse) = ((l.reverse.dropWhile p).reverse).dropWhile p
  | [] => rfl
  | a :: t => by
    rw [rdrop_cons]
    cases hp : p a
    · rw [List.dropWhile_cons, hp]
      simp only [Bool.false_eq_true, if_false]
      rw [rdrop_cons]
      split <;> simp [hp]
    · rw [List.dropWhile_cons, hp]
      simp only [if_true]
      rw [drop_both p t]
      split
      · rename_i h
        rw [h]
      · rw [List.dropWhile_cons, hp]
        simp
def ws : List UInt8 := [32, 9]
theorem trim_both (l : List UInt8) : Lib.trimRightS (Lib.trimLeftS l ws) ws = Lib.trimS l ws := drop_both (ws.contains ·) l
theorem ws_eq (b : UInt8) : ws.contains b = (((b.toNat : Int) == 32) || ((b.toNat : Int) == 9)) := by
  have hb := b.toNat_lt
  have := (show ∀ n : Fin 256, ws.contains n.val.toUInt8 = ((((n.val.toUInt8).toNat : Int) == 32) || (((n.val.toUInt8).toNat : Int) == 9)) by decide +kernel) ⟨b.toNat, hb⟩
  have e : b.toNat.toUInt8 = b := by simp
  simpa only [e] using this
theorem head_list (x : ByteArray) (h : 0 < x.size) : x.data.toList = x[0] :: x.data.toList.drop 1 := by
  have := List.drop_eq_getElem_cons (l := x.data.toList) (i := 0) (by simpa using h)
  rw [List.drop_zero] at this
  exact this
theorem last_list (x : ByteArray) (h : 0 < x.size) : x.data.toList = x.data.toList.take (x.size - 1) ++ [x[x.size - 1]] := by
  have := take_snoc x (x.size - 1) (by omega)
  rw [← this, take_all x _ (by omega)]
theorem left_step (x : ByteArray) (h : 0 < x.size) (hp : ws.contains x[0] = true) : Lib.trimLeftS (x.data.toList.drop 1) ws = Lib.trimLeftS x.data.toList ws := by
  unfold Lib.trimLeftS
  conv => rhs; rw [head_list x h, List.dropWhile_cons, hp]
  rfl
theorem left_stop (x : ByteArray) (hp : ∀ h : 0 < x.size, ws.contains (x[0]'h) = false) : Lib.trimLeftS x.data.toList ws = x.data.toList := by
  unfold Lib.trimLeftS
  by_cases h : 0 < x.size
  · rw [head_list x h, List.dropWhile_cons, hp h]
    rfl
  · obtain rfl := empty_eq x (by omega)
    rfl
theorem right_step (x : ByteArray) (h : 0 < x.size) (hp : ws.contains (x[x.size - 1]'(by omega)) = true) : Lib.trimRightS (x.data.toList.take (x.size - 1)) ws = Lib.trimRightS x.data.toList ws := by
  unfold Lib.trimRightS
  conv => rhs; rw [last_list x h, List.reverse_append, List.reverse_cons, List.reverse_nil, List.nil_append, List.singleton_append, List.dropWhile_cons, hp]
  rfl
theorem right_stop (x : ByteArray) (hp : ∀ h : 0 < x.size, ws.contains (x[x.size - 1]'(by omega)) = false) : Lib.trimRightS x.data.toList ws = x.data.toList := by
  unfold Lib.trimRightS
  by_cases h : 0 < x.size
  · rw [last_list x h, List.reverse_append, List.reverse_cons, List.reverse_nil, List.nil_append, List.singleton_append, List.dropWhile_cons, hp h]
    simp
  · obtain rfl := empty_eq x (by omega)
    rfl

end Go.Proofs.YtjhbiipbmlpgoaaDoor.Ch

/- Plain laws of a head's fields, with no program in them: a field out of a line, a line out of a field, as the document's own answer has them. -/
namespace Go.Proofs.YtjhbiipbmlpgoaaDoor.Fd

/-- where a byte stands first; the length: nowhere -/
def at_ (c : UInt8) (l : List UInt8) : Nat := l.findIdx (· == c)
theorem at_le (c : UInt8) (l : List UInt8) : at_ c l ≤ l.length := List.findIdx_le_length
theorem at_here {c : UInt8} {l : List UInt8} (h : at_ c l < l.length) : l[at_ c l] = c := by
  have := List.findIdx_getElem (w := h)
  exact beq_iff_eq.1 this
theorem at_first {c : UInt8} {l : List UInt8} {j : Nat} (h : j < at_ c l) (hj : j < l.length) : l[j] ≠ c := by
  have := List.not_of_lt_findIdx h
  intro e
  exact absurd (beq_iff_eq.2 e) (by simpa using this)
theorem at_none {c : UInt8} {l : List UInt8} (h : ∀ j (hj : j < l.length), l[j] ≠ c) : at_ c l = l.length := by
  rcases Nat.lt_or_ge (at_ c l) l.length with g | g
  · exact absurd (at_here g) (h _ g)
  · exact Nat.le_antisymm (at_le c l) g
theorem at_is {c : UInt8} {l : List UInt8} {k : Nat} (hk : k < l.length) (h : l[k] = c) (hf : ∀ j (hj : j < k), l[j] ≠ c) : at_ c l = k := by
  rcases Nat.lt_trichotomy (at_ c l) k with g | g | g
  · exact absurd (at_here (Nat.lt_trans g hk)) (hf _ g)
  · exact g
  · exact absurd h (at_first g hk)

/-- a field, and a code -/
structure Told where
  name : List UInt8
  value : List UInt8
  code : Nat
def bad (c : Nat) : Told := ⟨[], [], c⟩
/-- a field out of a line -/
def of (l : List UInt8) : Told :=
  if at_ 58 l = l.length then bad 5
  else if Ch.isToken (l.take (at_ 58 l)) = false then bad 6
  else if 40 < at_ 58 l then bad 4
  else if Ch.isVisible (l.drop (at_ 58 l + 1)) = false then bad 3
  else ⟨l.take (at_ 58 l), Lib.trimS (l.drop (at_ 58 l + 1)) Ch.ws, 0⟩
/-- a line out of a field: its text, and a code -/
def text (n v : List UInt8) : List UInt8 × Nat :=
  if Ch.isToken n = false then ([], 6)
  else if 40 < n.length ∨ 200 < n.length + 2 + v.length then ([], 4)
  else if Ch.isVisible v = false ∨ Lib.trimS v Ch.ws ≠ v then ([], 3)
  else (n ++ [58, 32] ++ v, 0)
end Go.Proofs.YtjhbiipbmlpgoaaDoor.Fd

/- Plain: replies: the words of their statuses, and a reply's text. -/
namespace Go.Proofs.YtjhbiipbmlpgoaaDoor.Rp

/-- statuses and their words -/
def tab : List (Int × List UInt8) := [(200, [79, 75]), (201, [67, 114, 101, 97, 116, 101, 100]), (204, [78, 111, 32, 67, 111, 110, 116, 101, 110, 116]), (400, [66, 97, 100, 32, 82, 101, 113, 117, 101, 115, 116]), (404, [78, 111, 116, 32, 70, 111, 117, 110, 100]), (405, [77, 101, 116, 104, 111, 100, 32, 78, 111, 116, 32, 65, 108, 108, 111, 119, 101, 100]), (409, [67, 111, 110, 102, 108, 105, 99, 116]), (412, [80, 114, 101, 99, 111, 110, 100, 105, 116, 105, 111, 110, 32, 70, 97, 105, 108, 101, 100]), (413, [67, 111, 110, 116, 101, 110, 116, 32, 84, 111, 111, 32, 76, 97, 114, 103, 101]), (415, [85, 110, 115, 117, 112, 112, 111, 114, 116, 101, 100, 32, 77, 101, 100, 105, 97, 32, 84, 121, 112, 101]), (507, [73, 110, 115, 117, 102, 102, 105, 99, 105, 101, 110, 116, 32, 83, 116, 111, 114, 97, 103, 101])]
def look : List (Int × List UInt8) → Int → List UInt8
  | [], _ => []
  | p :: t, n => if p.1 = n then p.2 else look t n
/-- the word of a status; none: nothing -/
def word (n : Int) : List UInt8 := look tab n
theorem look_at : ∀ (l : List (Int × List UInt8)) (n : Int) (k : Nat) (hk : k < l.length), l[k].1 = n → (∀ p ∈ l.take k, p.1 ≠ n) → look l n = l[k].2
  | p :: t, n, 0, _, e, _ => by rw [look, if_pos (by simpa using e)]; rfl
  | p :: t, n, k + 1, hk, e, hn => by
    rw [look, if_neg (hn p (by simp)), look_at t n k (by simpa using hk) (by simpa using e) (fun q hq => hn q (by simp [hq]))]
    rfl
theorem look_no : ∀ (l : List (Int × List UInt8)) (n : Int), (∀ p ∈ l, p.1 ≠ n) → look l n = []
  | [], _, _ => rfl
  | p :: t, n, hn => by rw [look, if_neg (hn p (by simp)), look_no t n (fun q hq => hn q (by simp [hq]))]
/-- a status that has a word -/
theorem word_has {n : Int} (h : word n ≠ []) : 200 ≤ n ∧ n ≤ 507 := by
  by_cases hn : ∀ p ∈ tab, p.1 ≠ n
  · exact absurd (look_no tab n hn) h
  · have : ∃ p, p ∈ tab ∧ p.1 = n := by
      apply Classical.byContradiction
      intro hc
      exact hn (fun p hp e => hc ⟨p, hp, e⟩)
    obtain ⟨p, hp, rfl⟩ := this
    have hall : ∀ q ∈ tab, 200 ≤ q.1 ∧ q.1 ≤ 507 := by decide
    exact hall p hp
theorem word_len (n : Int) : (word n).length ≤ 22 := by
  by_cases hn : ∀ p ∈ tab, p.1 ≠ n
  · rw [word, look_no tab n hn]; decide
  · have : ∃ p, p ∈ tab ∧ p.1 = n := by
      apply Classical.byContradiction
      intro hc
      exact hn (fun p hp e => hc ⟨p, hp, e⟩)
    obtain ⟨p, hp, rfl⟩ := this
    have hall : ∀ q ∈ tab, (look tab q.1).length ≤ 22 := by decide
    exact hall p hp
/-- a field's line -/
def lineT (p : ByteArray × ByteArray) : List UInt8 := (Fd.text p.1.data.toList p.2.data.toList).1 ++ [13, 10]
/-- the first code of the fields' texts -/
def code : List (ByteArray × ByteArray) → Nat
  | [] => 0
  | p :: t => if (Fd.text p.1.data.toList p.2.data.toList).2 ≠ 0 then (Fd.text p.1.data.toList p.2.data.toList).2 else code t
theorem code_zero : ∀ (l : List (ByteArray × ByteArray)), (∀ p ∈ l, (Fd.text p.1.data.toList p.2.data.toList).2 = 0) → code l = 0
  | [], _ => rfl
  | p :: t, h => by rw [code, if_neg (by simpa using h p (by simp)), code_zero t (fun q hq => h q (by simp [hq]))]
theorem code_bad : ∀ (l : List (ByteArray × ByteArray)) (i : Nat) (hi : i < l.length), (∀ p ∈ l.take i, (Fd.text p.1.data.toList p.2.data.toList).2 = 0) → (Fd.text l[i].1.data.toList l[i].2.data.toList).2 ≠ 0 → code l = (Fd.text l[i].1.data.toList l[i].2.data.toList).2
  | p :: t, 0, _, _, hc => by rw [code, if_pos (by simpa using hc)]; rfl
  | p :: t, i + 1, hi, hz, hc => by
    rw [code, if_neg (by simpa using hz p (by simp)), code_bad t i (by simpa using hi) (fun q hq => hz q (by simp [hq])) (by simpa using hc)]
    rfl
/-- HTTP/1.1 and a blank; Content-Length, a colon and a blank -/
def h11 : List UInt8 := [72, 84, 84, 80, 47, 49, 46, 49, 32]
def cl : List UInt8 := [67, 111, 110, 116, 101, 110, 116, 45, 76, 101, 110, 103, 116, 104, 58, 32]
/-- the first line, with its end -/
def first (st : Int) : List UInt8 := h11 ++ Ch.decF 8 st.toNat ++ [32] ++ word st ++ [13, 10]
/-- a reply's text; nv: how many Content-Lengths there are -/
def text (st : Int) (l : List (ByteArray × ByteArray)) (nv : Nat) (body : List UInt8) : List UInt8 × Nat :=
  if word st = [] then ([], 11) else if 16 ≤ l.length then ([], 8) else if nv ≠ 0 then ([], 12) else if code l ≠ 0 then ([], code l) else (first st ++ l.flatMap lineT ++ cl ++ Ch.decF 8 body.length ++ [13, 10, 13, 10] ++ body, 0)
end Go.Proofs.YtjhbiipbmlpgoaaDoor.Rp

/- Plain laws of lines in bytes, with no program in them: the line at the beginning of bytes, as the document's own answer has it. -/
namespace Go.Proofs.YtjhbiipbmlpgoaaDoor.Ln

/-- what is told of the line at the beginning of bytes: its text, how many bytes it has with its end, is there one, a code -/
structure Told where
  text : List UInt8
  size : Nat
  ended : Bool
  code : Nat
def open_ : Told := ⟨[], 0, false, 0⟩
def fails (i c : Nat) : Told := ⟨[], i, false, c⟩
/-- from the place i on, t being what is left there -/
def go (l : List UInt8) : Nat → List UInt8 → Told
  | _, [] => open_
  | i, c :: t =>
    if c = 13 then
      match t with
      | [] => open_
      | d :: _ => if d = 10 then ⟨l.take i, i + 2, true, 0⟩ else fails (i + 2) 2
    else if c = 10 then fails (i + 1) 2
    else if Ch.visible c.toNat = false then fails (i + 1) 3
    else if i = 200 then fails (i + 1) 4
    else go l (i + 1) t
def of (l : List UInt8) : Told := go l 0 l

theorem go_end (l : List UInt8) (i : Nat) (h : l.length ≤ i) : go l i (l.drop i) = open_ := by
  rw [List.drop_eq_nil_of_le h]; rfl
theorem go_at (l : List UInt8) (i : Nat) (h : i < l.length) : go l i (l.drop i) =
    if l[i] = 13 then
      (if h2 : i + 1 < l.length then (if l[i + 1] = 10 then ⟨l.take i, i + 2, true, 0⟩ else fails (i + 2) 2) else open_)
    else if l[i] = 10 then fails (i + 1) 2
    else if Ch.visible l[i].toNat = false then fails (i + 1) 3
    else if i = 200 then fails (i + 1) 4
    else go l (i + 1) (l.drop (i + 1)) := by
  rw [List.drop_eq_getElem_cons h]
  show (if l[i] = 13 then _ else _) = _
  by_cases h13 : l[i] = 13
  · rw [if_pos h13, if_pos h13]
    by_cases h2 : i + 1 < l.length
    · rw [dif_pos h2, List.drop_eq_getElem_cons h2]
    · rw [dif_neg h2, List.drop_eq_nil_of_le (by omega)]
  · rw [if_neg h13, if_neg h13]
end Go.Proofs.YtjhbiipbmlpgoaaDoor.Ln

/- Plain laws of lines that come byte by byte, with no program in them: what a reader keeps, what it answers, and that this is what is told of all that came since the last line's end. -/
namespace Go.Proofs.YtjhbiipbmlpgoaaDoor.Ln

/-- what a reader of lines keeps: what came of a line, did its CR come, a code -/
structure St where
  line : List UInt8
  ending : Bool
  code : Nat
def start : St := ⟨[], false, 0⟩
/-- the code of a byte behind what came -/
def fault (s : St) (c : UInt8) : Nat :=
  if s.ending = (c == 10) then (if c = 13 ∨ c = 10 then 0 else if Ch.visible c.toNat = false then 3 else if 200 ≤ s.line.length then 4 else 0) else 2
/-- behind a byte: what is kept -/
def next (s : St) (c : UInt8) : St :=
  if s.code ≠ 0 then s
  else if fault s c ≠ 0 then { s with code := fault s c }
  else if c = 10 then ⟨[], false, 0⟩
  else if c = 13 then { s with ending := true }
  else { s with line := s.line ++ [c] }
/-- the line that a byte ends -/
def text (s : St) (c : UInt8) : List UInt8 := if s.code = 0 ∧ fault s c = 0 ∧ c = 10 then s.line else []
/-- does a byte end a line? -/
def ends (s : St) (c : UInt8) : Bool := decide (s.code = 0 ∧ fault s c = 0 ∧ c = 10)
def begun (s : St) : Bool := s.ending || decide (0 < s.line.length)
/-- what came since the last line's end -/
def came (s : St) : List UInt8 := s.line ++ (if s.ending then [13] else [])
/-- what a reader that told no code keeps is so -/
structure Good (s : St) : Prop where
  seen : ∀ b ∈ s.line, Ch.visible b.toNat = true
  short : s.line.length ≤ 200
theorem Good.start : Good start := ⟨fun b h => by simp [Ln.start] at h, by simp [Ln.start]⟩
theorem not13 : Ch.visible (13 : UInt8).toNat = false := by decide
theorem not10 : Ch.visible (10 : UInt8).toNat = false := by decide
theorem next_good {s : St} {c : UInt8} (h : Good s) : Good (next s c) := by
  unfold next
  split
  · exact h
  · split
    · exact ⟨h.seen, h.short⟩
    · split
      · exact Good.start
      · split
        · exact ⟨h.seen, h.short⟩
        · rename_i _ hf h10 h13
          have hf : fault s c = 0 := by omega
          unfold fault at hf
          split at hf
          · split at hf
            · rename_i hc; rcases hc with e | e <;> contradiction
            · split at hf
              · omega
              · split at hf
                · omega
                · rename_i _ _ hv hl
                  refine ⟨fun b hb => ?_, by simp; omega⟩
                  simp at hb
                  rcases hb with hb | rfl
                  · exact h.seen b hb
                  · cases hh : Ch.visible (b.toNat : Int)
                    · exact absurd hh hv
                    · rfl
          · omega
/-- bytes of a line are passed by -/
theorem go_skip (l : List UInt8) (n : Nat) (hn : n ≤ l.length) (h2 : n ≤ 200) (hv : ∀ b ∈ l.take n, Ch.visible b.toNat = true) : of l = go l n (l.drop n) := by
  induction n with
  | zero => rfl
  | succ n ih =>
    have hlt : n < l.length := by omega
    have hm : l[n] ∈ l.take (n + 1) := by
      rw [List.take_succ_eq_append_getElem hlt]; exact List.mem_append_right _ (List.mem_singleton.2 rfl)
    have hx := hv _ hm
    rw [ih (by omega) (by omega) (fun b hb => hv b (by
      rw [List.take_succ_eq_append_getElem hlt]; exact List.mem_append_left _ hb)), go_at l n hlt]
    rw [if_neg (fun e => by rw [e, not13] at hx; cases hx), if_neg (fun e => by rw [e, not10] at hx; cases hx), if_neg (by rw [hx]; simp), if_neg (by omega)]
/-- what is told of all that came since the last line's end is what is answered -/
theorem of_came {s : St} (h : Good s) (hc : s.code = 0) (c : UInt8) :
    (of (came s ++ [c])).text = text s c ∧ (of (came s ++ [c])).ended = ends s c ∧ (of (came s ++ [c])).code = (next s c).code ∧ (ends s c = true → (of (came s ++ [c])).size = (came s).length + 1) := by
  have hn13 := not13
  have e : of (came s ++ [c]) = go (came s ++ [c]) s.line.length ((came s ++ [c]).drop s.line.length) := by
    refine go_skip _ _ (by unfold came; simp) h.short (fun b hb => ?_)
    unfold came at hb
    rw [List.append_assoc, List.take_left] at hb
    exact h.seen b hb
  rw [e]
  cases he : s.ending
  · have e2 : came s ++ [c] = s.line ++ [c] := by unfold came; rw [he]; simp
    rw [e2, List.drop_left]
    have e3 : came s = s.line := by unfold came; rw [he]; simp
    rw [e3]
    show _ ∧ _ ∧ _ ∧ _
    unfold go
    by_cases h13 : c = 13
    · subst h13
      have hf : fault s 13 = 0 := by unfold fault; rw [he]; rfl
      simp [text, ends, next, hf, hc, open_]
    · rw [if_neg h13]
      by_cases h10 : c = 10
      · subst h10
        have hf : fault s 10 = 2 := by unfold fault; rw [he]; rfl
        simp [text, ends, next, hf, hc, fails]
      · rw [if_neg h10]
        have hq : s.ending = (c == 10) := by rw [he]; exact (beq_eq_false_iff_ne.2 h10).symm
        have hno : ¬ (c = 13 ∨ c = 10) := by rintro (e | e) <;> contradiction
        by_cases hv : Ch.visible c.toNat = false
        · have hf : fault s c = 3 := by unfold fault; rw [if_pos hq, if_neg hno, if_pos hv]
          rw [if_pos hv]
          simp [text, ends, next, hf, hc, fails]
        · rw [if_neg hv]
          by_cases h2 : s.line.length = 200
          · have hf : fault s c = 4 := by unfold fault; rw [if_pos hq, if_neg hno, if_neg hv, if_pos (by omega)]
            rw [if_pos h2]
            simp [text, ends, next, hf, hc, fails]
          · have hs := h.short
            have hf : fault s c = 0 := by unfold fault; rw [if_pos hq, if_neg hno, if_neg hv, if_neg (by omega)]
            rw [if_neg h2]
            simp [text, ends, next, hf, hc, h10, h13, go, open_]
  · have e2 : came s ++ [c] = s.line ++ [13, c] := by unfold came; rw [he]; simp
    have e3 : (came s).length = s.line.length + 1 := by unfold came; rw [he]; simp
    rw [e2, List.drop_left, e3]
    unfold go
    rw [if_pos rfl]
    by_cases h10 : c = 10
    · subst h10
      have hf : fault s 10 = 0 := by unfold fault; rw [he]; rfl
      simp [text, ends, next, hf, hc]
    · have hf : fault s c = 2 := by
        unfold fault; rw [he, if_neg (by rw [beq_eq_false_iff_ne.2 h10]; simp)]
      simp [text, ends, next, hf, hc, h10, fails]
/-- what came grows by the byte, or a line ended -/
theorem came_next {s : St} {c : UInt8} (hc : s.code = 0) (hn : (next s c).code = 0) : came (next s c) = if ends s c then [] else came s ++ [c] := by
  unfold next at hn ⊢
  rw [if_neg (by omega)] at hn ⊢
  by_cases hf : fault s c = 0
  · rw [if_neg (by omega)] at hn ⊢
    by_cases h10 : c = 10
    · subst h10
      have : ends s 10 = true := by unfold ends; simp [hc, hf]
      rw [this]; rfl
    · have hE : ends s c = false := by unfold ends; simp [h10]
      rw [if_neg h10, hE]
      have he : s.ending = false := by
        unfold fault at hf
        cases hh : s.ending
        · rfl
        · rw [hh, if_neg (by rw [beq_eq_false_iff_ne.2 h10]; simp)] at hf; omega
      by_cases h13 : c = 13
      · subst h13
        rw [if_pos rfl]; unfold came; rw [he]; simp
      · rw [if_neg h13]; unfold came; simp [he]
  · rw [if_pos hf] at hn; exact absurd hn hf
theorem begun_came (s : St) : begun s = decide (0 < (came s).length) := by
  unfold begun came
  cases s.ending <;> simp
/-- with a code no line ends -/
theorem ends_code {s : St} {c : UInt8} (h : (next s c).code ≠ 0) : ends s c = false := by
  cases hE : ends s c
  · rfl
  · unfold ends at hE
    rw [decide_eq_true_eq] at hE
    obtain ⟨h0, hf, rfl⟩ := hE
    exact absurd (by unfold next; rw [if_neg (by omega), hf]; rfl) h
/-- behind a code it is told again -/
theorem again {s : St} (c : UInt8) (h : s.code ≠ 0) : next s c = s ∧ text s c = [] ∧ ends s c = false := by
  refine ⟨by unfold next; rw [if_pos h], by unfold text; rw [if_neg (fun e => h e.1)], by unfold ends; simp [h]⟩
end Go.Proofs.YtjhbiipbmlpgoaaDoor.Ln

/- Plain laws of lines: the line at the beginning of bytes is told by its own bytes alone; a reader that is fed them. -/
namespace Go.Proofs.YtjhbiipbmlpgoaaDoor.Ln

theorem go_size (l : List UInt8) : ∀ (t : List UInt8) (i : Nat), (go l i t).size = 0 ∨ i < (go l i t).size
  | [], i => Or.inl rfl
  | c :: t, i => by
    unfold go
    split
    · split
      · exact Or.inl rfl
      · split
        · right; show i < i + 2; omega
        · right; show i < i + 2; omega
    · split
      · right; show i < i + 1; omega
      · split
        · right; show i < i + 1; omega
        · split
          · right; show i < i + 1; omega
          · rcases go_size l t (i + 1) with h | h
            · exact Or.inl h
            · right; omega
theorem go_le (l : List UInt8) : ∀ (d i : Nat), l.length - i = d → i ≤ l.length → (go l i (l.drop i)).size ≤ l.length := by
  intro d
  induction d with
  | zero =>
    intro i hd hi
    rw [go_end l i (by omega)]
    exact Nat.zero_le _
  | succ d ih =>
    intro i hd hi
    have hlt : i < l.length := by omega
    rw [go_at l i hlt]
    split
    · split
      · split
        · show i + 2 ≤ _; omega
        · show i + 2 ≤ _; omega
      · exact Nat.zero_le _
    · split
      · show i + 1 ≤ _; omega
      · split
        · show i + 1 ≤ _; omega
        · split
          · show i + 1 ≤ _; omega
          · exact ih (i + 1) (by omega) (by omega)
theorem of_le (l : List UInt8) : (of l).size ≤ l.length := go_le l _ 0 rfl (Nat.zero_le _)
/-- its beginning tells it, or nothing yet -/
theorem go_take (l : List UInt8) (k : Nat) (hk : k ≤ l.length) : ∀ (d i : Nat), l.length - i = d → i ≤ k →
    go (l.take k) i ((l.take k).drop i) = if 0 < (go l i (l.drop i)).size ∧ (go l i (l.drop i)).size ≤ k then go l i (l.drop i) else open_ := by
  intro d
  induction d with
  | zero =>
    intro i hd hi
    rw [go_end l i (by omega), go_end (l.take k) i (by rw [List.length_take]; omega), if_neg (fun h => by have := h.1; simp [open_] at this)]
  | succ d ih =>
    intro i hd hi
    have hlt : i < l.length := by omega
    by_cases hik : i = k
    · subst hik
      rw [go_end (l.take i) i (by rw [List.length_take]; omega)]
      rw [if_neg]
      rintro ⟨h1, h2⟩
      rcases go_size l (l.drop i) i with h | h <;> omega
    · have hlk : (l.take k).length = k := by rw [List.length_take]; omega
      have hi2 : i < (l.take k).length := by omega
      have e0 : (l.take k)[i] = l[i] := by simp
      have et : (l.take k).take i = l.take i := by rw [List.take_take, Nat.min_eq_left (by omega)]
      rw [go_at (l.take k) i hi2, go_at l i hlt, e0]
      by_cases h13 : l[i] = 13
      · rw [if_pos h13, if_pos h13]
        by_cases h2 : i + 1 < k
        · have h2l : i + 1 < (l.take k).length := by omega
          have h2l' : i + 1 < l.length := by omega
          have e1 : (l.take k)[i + 1] = l[i + 1] := by simp
          rw [dif_pos h2l, dif_pos h2l', e1, et]
          by_cases h10 : l[i + 1] = 10
          · rw [if_pos h10, if_pos ⟨by show 0 < i + 2; omega, by show i + 2 ≤ k; omega⟩]
          · rw [if_neg h10, if_pos ⟨by show 0 < i + 2; omega, by show i + 2 ≤ k; omega⟩]
        · rw [dif_neg (show ¬ i + 1 < (l.take k).length by omega)]
          by_cases h2l' : i + 1 < l.length
          · rw [dif_pos h2l']
            by_cases h10 : l[i + 1] = 10
            · rw [if_pos h10, if_neg (fun h => by have : i + 2 ≤ k := h.2; omega)]
            · rw [if_neg h10, if_neg (fun h => by have : i + 2 ≤ k := h.2; omega)]
          · rw [dif_neg h2l', if_neg (fun h => by have := h.1; simp [open_] at this)]
      · rw [if_neg h13, if_neg h13]
        by_cases h10 : l[i] = 10
        · rw [if_pos h10, if_pos h10, if_pos ⟨by show 0 < i + 1; omega, by show i + 1 ≤ k; omega⟩]
        · rw [if_neg h10, if_neg h10]
          by_cases hv : Ch.visible l[i].toNat = false
          · rw [if_pos hv, if_pos hv, if_pos ⟨by show 0 < i + 1; omega, by show i + 1 ≤ k; omega⟩]
          · rw [if_neg hv, if_neg hv]
            by_cases h2 : i = 200
            · rw [if_pos h2, if_pos h2, if_pos ⟨by show 0 < i + 1; omega, by show i + 1 ≤ k; omega⟩]
            · rw [if_neg h2, if_neg h2]
              exact ih (i + 1) (by omega) (by omega)
theorem of_take (l : List UInt8) (k : Nat) (hk : k ≤ l.length) : of (l.take k) = if 0 < (of l).size ∧ (of l).size ≤ k then of l else open_ := go_take l k hk _ 0 rfl (Nat.zero_le _)
/-- a reader that was fed bytes -/
def fold (s : St) (l : List UInt8) : St := l.foldl next s
theorem fold_snoc (s : St) (l : List UInt8) (c : UInt8) : fold s (l ++ [c]) = next (fold s l) c := by simp [fold]
theorem fold_came (l : List UInt8) : ∀ j, j ≤ l.length → ((of l).size = 0 ∨ j < (of l).size) → Good (fold start (l.take j)) ∧ (fold start (l.take j)).code = 0 ∧ came (fold start (l.take j)) = l.take j
  | 0, _, _ => ⟨Good.start, rfl, rfl⟩
  | j + 1, hj, hs => by
    obtain ⟨hg, hc, hcm⟩ := fold_came l j (by omega) (by omega)
    have hlt : j < l.length := by omega
    have e : l.take (j + 1) = l.take j ++ [l[j]] := List.take_succ_eq_append_getElem hlt
    have hoc := of_came hg hc l[j]
    rw [hcm, ← e, of_take l (j + 1) hj, if_neg (by omega)] at hoc
    obtain ⟨_, h2, h3, _⟩ := hoc
    have hE : ends (fold start (l.take j)) l[j] = false := h2.symm
    have hC : (next (fold start (l.take j)) l[j]).code = 0 := h3.symm
    rw [e, fold_snoc]
    refine ⟨next_good hg, hC, ?_⟩
    rw [came_next hc hC, hE, hcm]
    rfl
/-- a byte that ends nothing, and one that ends the line or tells a code -/
theorem fold_quiet (l : List UInt8) (j : Nat) (hj : j < l.length) (hs : (of l).size = 0 ∨ j + 1 < (of l).size) : ends (fold start (l.take j)) l[j] = false ∧ (next (fold start (l.take j)) l[j]).code = 0 := by
  obtain ⟨hg, hc, hcm⟩ := fold_came l j (by omega) (by omega)
  have e : l.take (j + 1) = l.take j ++ [l[j]] := List.take_succ_eq_append_getElem hj
  have hoc := of_came hg hc l[j]
  rw [hcm, ← e, of_take l (j + 1) (by omega), if_neg (by omega)] at hoc
  exact ⟨hoc.2.1.symm, hoc.2.2.1.symm⟩
theorem fold_last (l : List UInt8) (j : Nat) (hj : j < l.length) (hs : j + 1 = (of l).size) : ends (fold start (l.take j)) l[j] = (of l).ended ∧ (next (fold start (l.take j)) l[j]).code = (of l).code ∧ text (fold start (l.take j)) l[j] = (of l).text := by
  obtain ⟨hg, hc, hcm⟩ := fold_came l j (by omega) (by omega)
  have e : l.take (j + 1) = l.take j ++ [l[j]] := List.take_succ_eq_append_getElem hj
  have hoc := of_came hg hc l[j]
  rw [hcm, ← e, of_take l (j + 1) (by omega), if_pos (by omega)] at hoc
  exact ⟨hoc.2.1.symm, hoc.2.2.1.symm, hoc.1.symm⟩
theorem go_kind (l : List UInt8) : ∀ (t : List UInt8) (i : Nat), (go l i t).size = 0 ∨ ((go l i t).code = 0 ∧ (go l i t).ended = true) ∨ ((go l i t).code ≠ 0 ∧ (go l i t).ended = false)
  | [], i => Or.inl rfl
  | c :: t, i => by
    unfold go
    split
    · split
      · exact Or.inl rfl
      · split
        · exact Or.inr (Or.inl ⟨rfl, rfl⟩)
        · exact Or.inr (Or.inr ⟨by show 2 ≠ 0; omega, rfl⟩)
    · split
      · exact Or.inr (Or.inr ⟨by show 2 ≠ 0; omega, rfl⟩)
      · split
        · exact Or.inr (Or.inr ⟨by show 3 ≠ 0; omega, rfl⟩)
        · split
          · exact Or.inr (Or.inr ⟨by show 4 ≠ 0; omega, rfl⟩)
          · exact go_kind l t (i + 1)
theorem of_kind (l : List UInt8) : (of l).size = 0 ∨ ((of l).code = 0 ∧ (of l).ended = true) ∨ ((of l).code ≠ 0 ∧ (of l).ended = false) := go_kind l l 0
theorem go_open (l : List UInt8) : ∀ (t : List UInt8) (i : Nat), (go l i t).size = 0 → go l i t = open_
  | [], i, _ => rfl
  | c :: t, i, h => by
    unfold go at h ⊢
    split at h
    · rename_i h13
      rw [if_pos h13]
      split at h
      · rfl
      · split at h
        · exact absurd (show i + 2 = 0 from h) (by omega)
        · exact absurd (show i + 2 = 0 from h) (by omega)
    · rename_i h13
      rw [if_neg h13]
      split at h
      · exact absurd (show i + 1 = 0 from h) (by omega)
      · rename_i h10
        rw [if_neg h10]
        split at h
        · exact absurd (show i + 1 = 0 from h) (by omega)
        · rename_i hv
          rw [if_neg hv]
          split at h
          · exact absurd (show i + 1 = 0 from h) (by omega)
          · rename_i h2
            rw [if_neg h2]
            exact go_open l t (i + 1) h
theorem of_open (l : List UInt8) (h : (of l).size = 0) : of l = open_ := go_open l l 0 h
end Go.Proofs.YtjhbiipbmlpgoaaDoor.Ln

/- Plain laws of a body in chunks, with no program in them: what the document's own answer tells of all bytes, and a reader byte by byte. -/
namespace Go.Proofs.YtjhbiipbmlpgoaaDoor.Ck

/-- what is told of bytes: what of the body came, how many bytes it took, is it over, a code -/
structure Told where
  body : List UInt8
  used : Nat
  over : Bool
  code : Nat
/-- a chunk's size, out of its line -/
def size (t : List UInt8) : Int × Bool := Ch.number 16 6 (Lib.trimS (t.take (Fd.at_ 59 t)) Ch.ws)
/-- lines behind the last chunk, n of them were there; f: at most so many rounds -/
def trail : Nat → List UInt8 → Nat → Told
  | 0, _, _ => ⟨[], 0, false, 0⟩
  | f + 1, l, n =>
    if (Ln.of l).code ≠ 0 ∨ (Ln.of l).ended = false then ⟨[], (Ln.of l).size, false, (Ln.of l).code⟩
    else if (Ln.of l).text = [] then ⟨[], (Ln.of l).size, true, 0⟩
    else if n = 16 then ⟨[], (Ln.of l).size, false, 8⟩
    else if (Fd.of (Ln.of l).text).code ≠ 0 then ⟨[], (Ln.of l).size, false, (Fd.of (Ln.of l).text).code⟩
    else let r := trail f (l.drop (Ln.of l).size) (n + 1); ⟨r.body, (Ln.of l).size + r.used, r.over, r.code⟩
/-- chunks, n bytes of the body were there -/
def go : Nat → List UInt8 → Nat → Told
  | 0, _, _ => ⟨[], 0, false, 0⟩
  | f + 1, l, n =>
    if (Ln.of l).code ≠ 0 ∨ (Ln.of l).ended = false then ⟨[], (Ln.of l).size, false, (Ln.of l).code⟩
    else if (size (Ln.of l).text).2 = false then ⟨[], (Ln.of l).size, false, 7⟩
    else if 4000 < n + (size (Ln.of l).text).1.toNat then ⟨[], (Ln.of l).size, false, 4⟩
    else if (size (Ln.of l).text).1.toNat = 0 then
      let r := trail (f + 1) (l.drop (Ln.of l).size) 0; ⟨r.body, (Ln.of l).size + r.used, r.over, r.code⟩
    else
      let k := (size (Ln.of l).text).1.toNat
      let d := l.drop (Ln.of l).size
      if d.length < k then ⟨d, (Ln.of l).size + d.length, false, 0⟩
      else
        let e := d.drop k
        if (Ln.of e).code ≠ 0 ∨ (Ln.of e).ended = false then ⟨d.take k, (Ln.of l).size + k + (Ln.of e).size, false, (Ln.of e).code⟩
        else if (Ln.of e).text ≠ [] then ⟨d.take k, (Ln.of l).size + k + (Ln.of e).size, false, 5⟩
        else let r := go f (e.drop (Ln.of e).size) (n + k); ⟨d.take k ++ r.body, (Ln.of l).size + k + (Ln.of e).size + r.used, r.over, r.code⟩
def of (l : List UInt8) : Told := go (l.length + 1) l 0

/-- what a reader keeps: where it stands (0 at a size, 1 in a chunk's bytes, 2 behind them, 3 behind the last chunk, 4 at the end), its line, how many bytes are left of a chunk, how many there are of the body, how many fields came, a code -/
structure St where
  ph : Nat
  ln : Ln.St
  left : Nat
  total : Nat
  count : Nat
  code : Nat
def start : St := ⟨0, Ln.start, 0, 0, 0, 0⟩
/-- behind a line's end -/
def line (s : St) (t : List UInt8) : St :=
  if s.ph = 0 then
    (if (size t).2 = false then { s with code := 7 }
     else if 4000 < s.total + (size t).1.toNat then { s with code := 4 }
     else if (size t).1.toNat = 0 then { s with ph := 3 }
     else { s with ph := 1, left := (size t).1.toNat, total := s.total + (size t).1.toNat })
  else if s.ph = 2 then (if t ≠ [] then { s with code := 5 } else { s with ph := 0 })
  else if t = [] then { s with ph := 4 }
  else if s.count = 16 then { s with code := 8 }
  else if (Fd.of t).code ≠ 0 then { s with code := (Fd.of t).code }
  else { s with count := s.count + 1 }
/-- behind a byte -/
def next (s : St) (c : UInt8) : St :=
  if s.code ≠ 0 then s
  else if s.ph = 4 then { s with code := 18 }
  else if s.ph = 1 then { s with left := s.left - 1, ph := if s.left ≤ 1 then 2 else 1 }
  else if (Ln.next s.ln c).code ≠ 0 then { s with code := (Ln.next s.ln c).code }
  else if Ln.ends s.ln c = true then line { s with ln := Ln.start } (Ln.text s.ln c)
  else { s with ln := Ln.next s.ln c }
/-- what a byte brings of the body -/
def out (s : St) (c : UInt8) : List UInt8 := if s.code = 0 ∧ s.ph = 1 then [c] else []
/-- what is told, byte by byte, to the first code or the end -/
def run : St → List UInt8 → Told
  | _, [] => ⟨[], 0, false, 0⟩
  | s, c :: t =>
    if (next s c).code ≠ 0 then ⟨out s c, 1, false, (next s c).code⟩
    else if (next s c).ph = 4 then ⟨out s c, 1, true, 0⟩
    else ⟨out s c ++ (run (next s c) t).body, 1 + (run (next s c) t).used, (run (next s c) t).over, (run (next s c) t).code⟩
/-- the same, but for how many bytes where nothing was told -/
structure Same (a b : Told) : Prop where
  body : a.body = b.body
  over : a.over = b.over
  code : a.code = b.code
  used : (a.code ≠ 0 ∨ a.over = true) → a.used = b.used
theorem Same.refl (a : Told) : Same a a := ⟨rfl, rfl, rfl, fun _ => rfl⟩
/-- behind some bytes -/
def shift (x : List UInt8) (k : Nat) (r : Told) : Told := ⟨x ++ r.body, k + r.used, r.over, r.code⟩
theorem Same.shift {a b : Told} (h : Same a b) (x : List UInt8) (k : Nat) : Same (Ck.shift x k a) (Ck.shift x k b) :=
  ⟨by simp [Ck.shift, h.body], h.over, h.code, fun e => by show k + a.used = k + b.used; rw [h.used e]⟩
theorem shift_shift (x y : List UInt8) (j k : Nat) (r : Told) : shift x j (shift y k r) = shift (x ++ y) (j + k) r := by
  simp [shift, Nat.add_assoc]
theorem run_quiet {s : St} {c : UInt8} (t : List UInt8) (h1 : (next s c).code = 0) (h2 : (next s c).ph ≠ 4) : run s (c :: t) = shift (out s c) 1 (run (next s c) t) := by
  rw [run, if_neg (by omega), if_neg h2]; rfl
/-- at a line -/
structure AtLine (s : St) : Prop where
  code : s.code = 0
  ph : s.ph = 0 ∨ s.ph = 2 ∨ s.ph = 3
  ln : s.ln = Ln.start
theorem next_in {s : St} {x : Ln.St} (h : AtLine s) (c : UInt8) (hq : Ln.ends x c = false) (hc : (Ln.next x c).code = 0) : next { s with ln := x } c = { s with ln := Ln.next x c } := by
  have h1 := h.code
  have h2 := h.ph
  unfold next
  rw [if_neg (by simpa using h1), if_neg (by show ¬ s.ph = 4; omega), if_neg (by show ¬ s.ph = 1; omega), if_neg (by simpa using hc), if_neg (by simp [hq])]
theorem out_in {s : St} {x : Ln.St} (h : AtLine s) (c : UInt8) : out { s with ln := x } c = [] := by
  have h2 := h.ph
  unfold out
  rw [if_neg (fun e => by have : s.ph = 1 := e.2; omega)]
/-- the bytes of a line bring nothing -/
theorem run_line {s : St} (h : AtLine s) (l : List UInt8) : ∀ j, j ≤ l.length → ((Ln.of l).size = 0 ∨ j < (Ln.of l).size) → run s l = shift [] j (run { s with ln := Ln.fold Ln.start (l.take j) } (l.drop j))
  | 0, _, _ => by
    have e : { s with ln := Ln.fold Ln.start (l.take 0) } = s := by
      have := h.ln
      cases s
      simp only at this
      subst this
      rfl
    rw [e]
    simp [shift]
  | j + 1, hj, hs => by
    have hlt : j < l.length := by omega
    rw [run_line h l j (by omega) (by omega), List.drop_eq_getElem_cons hlt]
    obtain ⟨hE, hC⟩ := Ln.fold_quiet l j hlt (by omega)
    have hn := next_in h l[j] hE hC
    have h1 := h.code
    have h2 := h.ph
    rw [run_quiet _ (by rw [hn]; exact h1) (by rw [hn]; show s.ph ≠ 4; omega), out_in h, hn, shift_shift, List.nil_append, List.take_succ_eq_append_getElem hlt, Ln.fold_snoc]
/-- no line yet -/
theorem run_open {s : St} (h : AtLine s) (l : List UInt8) (ho : (Ln.of l).size = 0) : (run s l).body = [] ∧ (run s l).over = false ∧ (run s l).code = 0 := by
  rw [run_line h l l.length (Nat.le_refl _) (Or.inl ho), List.drop_length]
  exact ⟨rfl, rfl, rfl⟩
/-- a line, or a code -/
theorem run_told {s : St} (h : AtLine s) (l : List UInt8) (ho : 0 < (Ln.of l).size) : run s l =
    if (Ln.of l).code ≠ 0 then ⟨[], (Ln.of l).size, false, (Ln.of l).code⟩
    else if (line s (Ln.of l).text).code ≠ 0 then ⟨[], (Ln.of l).size, false, (line s (Ln.of l).text).code⟩
    else if (line s (Ln.of l).text).ph = 4 then ⟨[], (Ln.of l).size, true, 0⟩
    else shift [] (Ln.of l).size (run (line s (Ln.of l).text) (l.drop (Ln.of l).size)) := by
  obtain ⟨j, hj⟩ : ∃ j, (Ln.of l).size = j + 1 := ⟨(Ln.of l).size - 1, by omega⟩
  have hle := Ln.of_le l
  have hlt : j < l.length := by omega
  have h1 := h.code
  have h2 := h.ph
  obtain ⟨hE, hC, hT⟩ := Ln.fold_last l j hlt hj.symm
  have hsl : { s with ln := Ln.start } = s := by
    have := h.ln
    cases s
    simp only at this
    subst this
    rfl
  have hn : next { s with ln := Ln.fold Ln.start (l.take j) } l[j] = if (Ln.of l).code ≠ 0 then { s with ln := Ln.fold Ln.start (l.take j), code := (Ln.of l).code } else line s (Ln.of l).text := by
    unfold next
    rw [if_neg (by simpa using h1), if_neg (by show ¬ s.ph = 4; omega), if_neg (by show ¬ s.ph = 1; omega)]
    show (if (Ln.next (Ln.fold Ln.start (l.take j)) l[j]).code ≠ 0 then _ else if Ln.ends (Ln.fold Ln.start (l.take j)) l[j] = true then line { s with ln := Ln.start } (Ln.text (Ln.fold Ln.start (l.take j)) l[j]) else _) = _
    rw [hC]
    by_cases hc : (Ln.of l).code = 0
    · have hcn : ¬ (Ln.of l).code ≠ 0 := by omega
      rw [if_neg hcn, if_neg hcn, hE, hT, hsl]
      rcases Ln.of_kind l with hk | hk | hk
      · omega
      · rw [if_pos hk.2]
      · exact absurd hc hk.1
    · rw [if_pos hc, if_pos hc]
  rw [run_line h l j (by omega) (Or.inr (by omega)), List.drop_eq_getElem_cons hlt, run, hn, out_in h, hj]
  by_cases hc : (Ln.of l).code = 0
  · have hcn : ¬ (Ln.of l).code ≠ 0 := by omega
    simp only [if_neg hcn]
    by_cases hlc : (line s (Ln.of l).text).code = 0
    · have hln : ¬ (line s (Ln.of l).text).code ≠ 0 := by omega
      simp only [if_neg hln]
      by_cases h4 : (line s (Ln.of l).text).ph = 4
      · rw [if_pos h4, if_pos h4]; simp [shift]
      · rw [if_neg h4, if_neg h4]; simp [shift, Nat.add_assoc]
    · rw [if_pos hlc, if_pos hlc]; simp [shift]
  · rw [if_pos hc]
    rw [if_pos (show ({ s with ln := Ln.fold Ln.start (l.take j), code := (Ln.of l).code } : St).code ≠ 0 from hc), if_pos hc]
    simp [shift]
/-- in a chunk's bytes -/
theorem run_bytes (s : St) (h0 : s.code = 0) : ∀ (k : Nat) (l : List UInt8), run { s with ph := 1, left := k + 1 } l =
    if l.length < k + 1 then ⟨l, l.length, false, 0⟩ else shift (l.take (k + 1)) (k + 1) (run { s with ph := 2, left := 0 } (l.drop (k + 1)))
  | k, [] => by rw [if_pos (by simp)]; rfl
  | k, c :: t => by
    have ho : out { s with ph := 1, left := k + 1 } c = [c] := by unfold out; rw [if_pos ⟨h0, rfl⟩]
    cases k with
    | zero =>
      have hn : next { s with ph := 1, left := 0 + 1 } c = { s with ph := 2, left := 0 } := by
        unfold next
        rw [if_neg (by simpa using h0), if_neg (by show ¬ 1 = 4; omega), if_pos rfl]
        rfl
      rw [run_quiet t (by rw [hn]; exact h0) (by rw [hn]; show 2 ≠ 4; omega), ho, hn, if_neg (by simp)]
      rfl
    | succ k =>
      have hn : next { s with ph := 1, left := k + 1 + 1 } c = { s with ph := 1, left := k + 1 } := by
        unfold next
        rw [if_neg (by simpa using h0), if_neg (by show ¬ 1 = 4; omega), if_pos rfl]
        show ({ s with ph := if k + 1 + 1 ≤ 1 then 2 else 1, left := k + 1 + 1 - 1 } : St) = _
        rw [if_neg (by omega)]
        rfl
      rw [run_quiet t (by rw [hn]; exact h0) (by rw [hn]; show 1 ≠ 4; omega), ho, hn, run_bytes s h0 k t]
      by_cases hl : t.length < k + 1
      · rw [if_pos hl, if_pos (by simp; omega)]
        simp [shift]; omega
      · rw [if_neg hl, if_neg (by simp; omega), shift_shift]
        have e : k + 1 + 1 = (k + 1) + 1 := rfl
        rw [e, List.take_succ_cons, List.drop_succ_cons, Nat.add_comm 1 (k + 1)]
        rfl
end Go.Proofs.YtjhbiipbmlpgoaaDoor.Ck

/- Plain laws of a body in chunks: a reader byte by byte tells what the document's own answer tells of all bytes. -/
namespace Go.Proofs.YtjhbiipbmlpgoaaDoor.Ck

theorem open_of {l : List UInt8} (h : (Ln.of l).size = 0) : (Ln.of l).code = 0 ∧ (Ln.of l).ended = false := by
  rw [Ln.of_open l h]; exact ⟨rfl, rfl⟩
theorem kind_of {l : List UInt8} (h : 0 < (Ln.of l).size) (hc : (Ln.of l).code = 0) : (Ln.of l).ended = true := by
  rcases Ln.of_kind l with hk | hk | hk
  · omega
  · exact hk.2
  · exact absurd hc hk.1
theorem same_open {s : St} (h : AtLine s) {l : List UInt8} (ho : (Ln.of l).size = 0) : Same ⟨[], (Ln.of l).size, false, (Ln.of l).code⟩ (run s l) := by
  obtain ⟨h1, h2, h3⟩ := run_open h l ho
  have := (open_of ho).1
  exact ⟨h1.symm, h2.symm, by rw [h3]; exact this, fun e => by rcases e with e | e <;> simp_all⟩
theorem trail_run : ∀ (f : Nat) (l : List UInt8) (s : St), l.length < f → AtLine s → s.ph = 3 → Same (trail f l s.count) (run s l)
  | 0, l, s, hf, _, _ => by omega
  | f + 1, l, s, hf, h, h3 => by
    rw [trail]
    by_cases ho : (Ln.of l).size = 0
    · have := open_of ho
      rw [if_pos (Or.inr this.2)]
      exact same_open h ho
    · have hp : 0 < (Ln.of l).size := by omega
      have hle := Ln.of_le l
      rw [run_told h l hp]
      by_cases hc : (Ln.of l).code = 0
      · have he := kind_of hp hc
        have hn : ¬ ((Ln.of l).code ≠ 0 ∨ (Ln.of l).ended = false) := by rw [he, hc]; simp
        have hcn : ¬ (Ln.of l).code ≠ 0 := by omega
        rw [if_neg hn, if_neg hcn]
        have hL : line s (Ln.of l).text = if (Ln.of l).text = [] then { s with ph := 4 } else if s.count = 16 then { s with code := 8 } else if (Fd.of (Ln.of l).text).code ≠ 0 then { s with code := (Fd.of (Ln.of l).text).code } else { s with count := s.count + 1 } := by
          unfold line; rw [if_neg (by omega), if_neg (by omega)]
        by_cases ht : (Ln.of l).text = []
        · rw [if_pos ht, hL, if_pos ht]
          have e1 : ¬ ({ s with ph := 4 } : St).code ≠ 0 := by have := h.code; simpa using this
          rw [if_neg e1, if_pos rfl]
          exact Same.refl _
        · rw [if_neg ht, hL, if_neg ht]
          by_cases h16 : s.count = 16
          · rw [if_pos h16, if_pos h16, if_pos (show ({ s with code := 8 } : St).code ≠ 0 by show 8 ≠ 0; omega)]
            exact Same.refl _
          · rw [if_neg h16, if_neg h16]
            by_cases hfc : (Fd.of (Ln.of l).text).code = 0
            · have hfn : ¬ (Fd.of (Ln.of l).text).code ≠ 0 := by omega
              rw [if_neg hfn, if_neg hfn]
              have e1 : ¬ ({ s with count := s.count + 1 } : St).code ≠ 0 := by have := h.code; simpa using this
              rw [if_neg e1, if_neg (show ¬ ({ s with count := s.count + 1 } : St).ph = 4 by show ¬ s.ph = 4; omega)]
              have ih := trail_run f (l.drop (Ln.of l).size) { s with count := s.count + 1 } (by rw [List.length_drop]; omega) ⟨h.code, h.ph, h.ln⟩ h3
              have := ih.shift [] (Ln.of l).size
              simpa [shift] using this
            · rw [if_pos hfc, if_pos hfc, if_pos (show ({ s with code := (Fd.of (Ln.of l).text).code } : St).code ≠ 0 from hfc)]
              exact Same.refl _
      · rw [if_pos (Or.inl hc), if_pos hc]
        exact Same.refl _
theorem go_run : ∀ (f : Nat) (l : List UInt8) (s : St), l.length < f → AtLine s → s.ph = 0 → s.count = 0 → Same (go f l s.total) (run s l)
  | 0, l, s, hf, _, _, _ => by omega
  | f + 1, l, s, hf, h, h0, hct => by
    rw [go]
    by_cases ho : (Ln.of l).size = 0
    · have := open_of ho
      rw [if_pos (Or.inr this.2)]
      exact same_open h ho
    · have hp : 0 < (Ln.of l).size := by omega
      have hle := Ln.of_le l
      rw [run_told h l hp]
      by_cases hc : (Ln.of l).code = 0
      · have he := kind_of hp hc
        have hn : ¬ ((Ln.of l).code ≠ 0 ∨ (Ln.of l).ended = false) := by rw [he, hc]; simp
        have hcn : ¬ (Ln.of l).code ≠ 0 := by omega
        rw [if_neg hn, if_neg hcn]
        have hL : line s (Ln.of l).text = if (size (Ln.of l).text).2 = false then { s with code := 7 } else if 4000 < s.total + (size (Ln.of l).text).1.toNat then { s with code := 4 } else if (size (Ln.of l).text).1.toNat = 0 then { s with ph := 3 } else { s with ph := 1, left := (size (Ln.of l).text).1.toNat, total := s.total + (size (Ln.of l).text).1.toNat } := by
          unfold line; rw [if_pos h0]
        rw [hL]
        by_cases h7 : (size (Ln.of l).text).2 = false
        · rw [if_pos h7, if_pos h7, if_pos (show ({ s with code := 7 } : St).code ≠ 0 by show 7 ≠ 0; omega)]
          exact Same.refl _
        · rw [if_neg h7, if_neg h7]
          by_cases h4 : 4000 < s.total + (size (Ln.of l).text).1.toNat
          · rw [if_pos h4, if_pos h4, if_pos (show ({ s with code := 4 } : St).code ≠ 0 by show 4 ≠ 0; omega)]
            exact Same.refl _
          · rw [if_neg h4, if_neg h4]
            by_cases hz : (size (Ln.of l).text).1.toNat = 0
            · rw [if_pos hz, if_pos hz]
              have e1 : ¬ ({ s with ph := 3 } : St).code ≠ 0 := by have := h.code; simpa using this
              rw [if_neg e1, if_neg (show ¬ ({ s with ph := 3 } : St).ph = 4 by show ¬ 3 = 4; omega)]
              have ih := trail_run (f + 1) (l.drop (Ln.of l).size) { s with ph := 3 } (by rw [List.length_drop]; omega) ⟨h.code, Or.inr (Or.inr rfl), h.ln⟩ rfl
              have := ih.shift [] (Ln.of l).size
              have hc0 : ({ s with ph := 3 } : St).count = 0 := hct
              rw [hc0] at this
              simpa [shift, hct] using this
            · rw [if_neg hz, if_neg hz]
              have e1 : ¬ ({ s with ph := 1, left := (size (Ln.of l).text).1.toNat, total := s.total + (size (Ln.of l).text).1.toNat } : St).code ≠ 0 := by have := h.code; simpa using this
              rw [if_neg e1, if_neg (show ¬ ({ s with ph := 1, left := (size (Ln.of l).text).1.toNat, total := s.total + (size (Ln.of l).text).1.toNat } : St).ph = 4 by show ¬ 1 = 4; omega)]
              generalize (size (Ln.of l).text).1.toNat = k at *
              obtain ⟨j, rfl⟩ : ∃ j, k = j + 1 := ⟨k - 1, by omega⟩
              have hdl : (l.drop (Ln.of l).size).length = l.length - (Ln.of l).size := List.length_drop
              generalize hD : l.drop (Ln.of l).size = d at *
              generalize (Ln.of l).size = sz at *
              have hb := run_bytes { s with total := s.total + (j + 1) } h.code j d
              have e2 : ({ ({ s with total := s.total + (j + 1) } : St) with ph := 1, left := j + 1 } : St) = { s with ph := 1, left := j + 1, total := s.total + (j + 1) } := rfl
              rw [e2] at hb
              rw [hb]
              simp only []
              by_cases hdk : d.length < j + 1
              · rw [if_pos hdk, if_pos hdk]
                exact ⟨by simp [shift], rfl, rfl, fun e => by rcases e with e | e <;> simp at e⟩
              · rw [if_neg hdk, if_neg hdk]
                have hA : AtLine { s with ph := 2, left := 0, total := s.total + (j + 1) } := ⟨h.code, Or.inr (Or.inl rfl), h.ln⟩
                have hel : (d.drop (j + 1)).length = d.length - (j + 1) := List.length_drop
                generalize d.drop (j + 1) = e at *
                rw [shift_shift, List.nil_append]
                show Same _ (shift (d.take (j + 1)) (sz + (j + 1)) (run { s with ph := 2, left := 0, total := s.total + (j + 1) } e))
                by_cases ho2 : (Ln.of e).size = 0
                · have ho3 := open_of ho2
                  rw [if_pos (Or.inr ho3.2)]
                  have := (same_open hA ho2).shift (d.take (j + 1)) (sz + (j + 1))
                  simpa [shift, Nat.add_assoc] using this
                · have hp2 : 0 < (Ln.of e).size := by omega
                  have hle2 := Ln.of_le e
                  rw [run_told hA e hp2]
                  by_cases hc2 : (Ln.of e).code = 0
                  · have he2 := kind_of hp2 hc2
                    have hn2 : ¬ ((Ln.of e).code ≠ 0 ∨ (Ln.of e).ended = false) := by rw [he2, hc2]; simp
                    have hcn2 : ¬ (Ln.of e).code ≠ 0 := by omega
                    rw [if_neg hn2, if_neg hcn2]
                    have hL2 : line { s with ph := 2, left := 0, total := s.total + (j + 1) } (Ln.of e).text = if (Ln.of e).text ≠ [] then { s with ph := 2, left := 0, total := s.total + (j + 1), code := 5 } else { s with ph := 0, left := 0, total := s.total + (j + 1) } := by
                      unfold line; rw [if_neg (show ¬ (2 : Nat) = 0 by omega), if_pos rfl]
                    rw [hL2]
                    by_cases ht : (Ln.of e).text = []
                    · have htn : ¬ (Ln.of e).text ≠ [] := fun x => x ht
                      rw [if_neg htn, if_neg htn]
                      have e3 : ¬ ({ s with ph := 0, left := 0, total := s.total + (j + 1) } : St).code ≠ 0 := by have := h.code; simpa using this
                      rw [if_neg e3, if_neg (show ¬ ({ s with ph := 0, left := 0, total := s.total + (j + 1) } : St).ph = 4 by show ¬ 0 = 4; omega)]
                      have ih := go_run f (e.drop (Ln.of e).size) { s with ph := 0, left := 0, total := s.total + (j + 1) } (by rw [List.length_drop]; omega) ⟨h.code, Or.inl rfl, h.ln⟩ rfl hct
                      have := (ih.shift [] (Ln.of e).size).shift (d.take (j + 1)) (sz + (j + 1))
                      simpa [shift, Nat.add_assoc] using this
                    · rw [if_pos ht, if_pos ht, if_pos (show ({ s with ph := 2, left := 0, total := s.total + (j + 1), code := 5 } : St).code ≠ 0 by show 5 ≠ 0; omega)]
                      simpa [shift, Nat.add_assoc] using Same.refl (⟨d.take (j + 1), sz + (j + 1) + (Ln.of e).size, false, 5⟩ : Told)
                  · rw [if_pos (Or.inl hc2), if_pos hc2]
                    simpa [shift, Nat.add_assoc] using Same.refl (⟨d.take (j + 1), sz + (j + 1) + (Ln.of e).size, false, (Ln.of e).code⟩ : Told)
      · rw [if_pos (Or.inl hc), if_pos hc]
        exact Same.refl _
/-- a reader that is new tells what is told of all bytes -/
theorem of_run (l : List UInt8) : Same (of l) (run start l) := go_run (l.length + 1) l start (by omega) ⟨rfl, Or.inl rfl, rfl⟩ rfl rfl

def fold (s : St) (l : List UInt8) : St := l.foldl next s
/-- is the body over by a byte? -/
def over (s : St) (c : UInt8) : Bool := decide (s.code = 0 ∧ s.ph ≠ 4 ∧ (next s c).code = 0 ∧ (next s c).ph = 4)
/-- all that bytes bring -/
def outs : St → List UInt8 → List UInt8
  | _, [] => []
  | s, c :: t => out s c ++ outs (next s c) t
theorem next_dead {s : St} (h : s.code ≠ 0) (c : UInt8) : next s c = s := by unfold next; rw [if_pos h]
theorem fold_dead {s : St} (h : s.code ≠ 0) : ∀ l : List UInt8, fold s l = s
  | [] => rfl
  | c :: t => by
    show fold (next s c) t = s
    rw [next_dead h]; exact fold_dead h t
theorem outs_dead {s : St} (h : s.code ≠ 0) : ∀ l : List UInt8, outs s l = []
  | [] => rfl
  | c :: t => by
    rw [outs, next_dead h, outs_dead h t]
    unfold out; rw [if_neg (fun e => h e.1)]; rfl
theorem next_over {s : St} (h : s.code = 0) (h4 : s.ph = 4) (c : UInt8) : (next s c).code = 18 := by
  unfold next; rw [if_neg (by omega), if_pos h4]
theorem run_used : ∀ (l : List UInt8) (s : St), ((run s l).code ≠ 0 ∨ (run s l).over = true) → 1 ≤ (run s l).used ∧ (run s l).used ≤ l.length
  | [], s, h => by rcases h with h | h <;> simp [run] at h
  | c :: t, s, h => by
    rw [run] at h ⊢
    split at h
    · rename_i h1
      rw [if_pos h1]; exact ⟨Nat.le_refl _, by simp⟩
    · rename_i h1
      rw [if_neg h1]
      split at h
      · rename_i h2
        rw [if_pos h2]; exact ⟨Nat.le_refl _, by simp⟩
      · rename_i h2
        rw [if_neg h2]
        have := run_used t (next s c) h
        simp only [List.length_cons]
        omega
/-- byte by byte -/
theorem run_at : ∀ (l : List UInt8) (s : St), s.code = 0 → s.ph ≠ 4 → ∀ i (hi : i < l.length),
    (next (fold s (l.take i)) l[i]).code = (if (run s l).code ≠ 0 ∧ (run s l).used ≤ i + 1 then (run s l).code else if (run s l).over = true ∧ (run s l).used ≤ i then 18 else 0) ∧
    over (fold s (l.take i)) l[i] = decide ((run s l).over = true ∧ i + 1 = (run s l).used)
  | [], s, _, _, i, hi => by simp at hi
  | c :: t, s, h0, h4, i, hi => by
    rw [run]
    by_cases hc : (next s c).code = 0
    · have hcn : ¬ (next s c).code ≠ 0 := by omega
      rw [if_neg hcn]
      by_cases hp : (next s c).ph = 4
      · rw [if_pos hp]
        cases i with
        | zero =>
          refine ⟨?_, ?_⟩
          · show (next s c).code = _
            rw [hc, if_neg (by simp), if_neg (by simp)]
          · show over s c = _
            unfold over
            simp [h0, h4, hc, hp]
        | succ i =>
          have hi' : i < t.length := by simpa using hi
          have hd : ∀ j, j < t.length → (next (fold (next s c) (t.take j)) (t[j]!)).code = 18 ∧ over (fold (next s c) (t.take j)) (t[j]!) = false := by
            intro j hj
            cases j with
            | zero =>
              refine ⟨next_over hc hp _, ?_⟩
              show over (next s c) _ = false
              unfold over; simp [hp]
            | succ j =>
              cases t with
              | nil => simp at hj
              | cons d u =>
                have hdead : (next (next s c) d).code ≠ 0 := by rw [next_over hc hp]; omega
                have e : fold (next s c) ((d :: u).take (j + 1)) = next (next s c) d := by
                  show fold (next (next s c) d) (u.take j) = _
                  exact fold_dead hdead _
                rw [e, next_dead hdead]
                refine ⟨next_over hc hp _, ?_⟩
                unfold over; simp [hdead]
          have hx := hd i hi'
          have e : t[i]! = t[i] := by simp [hi']
          rw [e] at hx
          refine ⟨?_, ?_⟩
          · show (next (fold (next s c) (t.take i)) t[i]).code = _
            rw [hx.1, if_neg (by simp), if_pos ⟨rfl, by simp⟩]
          · show over (fold (next s c) (t.take i)) t[i] = _
            rw [hx.2]; simp
      · rw [if_neg hp]
        cases i with
        | zero =>
          have hu := run_used t (next s c)
          refine ⟨?_, ?_⟩
          · show (next s c).code = _
            rw [hc, if_neg, if_neg]
            · rintro ⟨_, h2⟩
              have : 1 + (run (next s c) t).used ≤ 0 := h2
              omega
            · rintro ⟨h1, h2⟩
              have h1' : (run (next s c) t).code ≠ 0 := h1
              have h2' : 1 + (run (next s c) t).used ≤ 0 + 1 := h2
              have := hu (Or.inl h1')
              omega
          · show over s c = _
            have e1 : over s c = false := by unfold over; simp [hp]
            rw [e1]
            symm
            rw [decide_eq_false_iff_not]
            rintro ⟨h1, h2⟩
            have h1' : (run (next s c) t).over = true := h1
            have h2' : 0 + 1 = 1 + (run (next s c) t).used := h2
            have := hu (Or.inr h1')
            omega
        | succ i =>
          have hi' : i < t.length := by simpa using hi
          obtain ⟨ih1, ih2⟩ := run_at t (next s c) hc hp i hi'
          refine ⟨?_, ?_⟩
          · show (next (fold (next s c) (t.take i)) t[i]).code = _
            rw [ih1]
            have e1 : (1 + (run (next s c) t).used ≤ i + 1 + 1) = ((run (next s c) t).used ≤ i + 1) := propext ⟨fun h => by omega, fun h => by omega⟩
            have e2 : (1 + (run (next s c) t).used ≤ i + 1) = ((run (next s c) t).used ≤ i) := propext ⟨fun h => by omega, fun h => by omega⟩
            simp only [e1, e2]
          · show over (fold (next s c) (t.take i)) t[i] = _
            rw [ih2]
            have e1 : (i + 1 + 1 = 1 + (run (next s c) t).used) = (i + 1 = (run (next s c) t).used) := propext ⟨fun h => by omega, fun h => by omega⟩
            simp only [e1]
    · rw [if_pos hc]
      cases i with
      | zero =>
        refine ⟨?_, ?_⟩
        · show (next s c).code = _
          rw [if_pos ⟨hc, by simp⟩]
        · show over s c = _
          unfold over; simp [hc]
      | succ i =>
        have hi' : i < t.length := by simpa using hi
        refine ⟨?_, ?_⟩
        · show (next (fold (next s c) (t.take i)) t[i]).code = _
          rw [fold_dead hc, next_dead hc, if_pos ⟨hc, by simp⟩]
        · show over (fold (next s c) (t.take i)) t[i] = _
          rw [fold_dead hc]
          unfold over; simp [hc]
theorem run_outs : ∀ (l : List UInt8) (s : St), outs s l = (run s l).body
  | [], s => rfl
  | c :: t, s => by
    rw [outs, run]
    by_cases hc : (next s c).code = 0
    · have hcn : ¬ (next s c).code ≠ 0 := by omega
      rw [if_neg hcn]
      by_cases hp : (next s c).ph = 4
      · rw [if_pos hp]
        have : outs (next s c) t = [] := by
          cases t with
          | nil => rfl
          | cons d u =>
            have hdead : (next (next s c) d).code ≠ 0 := by rw [next_over hc hp]; omega
            rw [outs, outs_dead hdead]
            unfold out; rw [if_neg (fun e => by have := e.2; omega)]; rfl
        rw [this, List.append_nil]
      · rw [if_neg hp, run_outs t (next s c)]
    · rw [if_pos hc, outs_dead hc, List.append_nil]
end Go.Proofs.YtjhbiipbmlpgoaaDoor.Ck

/- Plain laws of a body in chunks: what a reader keeps is so, whatever comes. -/
namespace Go.Proofs.YtjhbiipbmlpgoaaDoor.Ck

/-- the code that the program keeps: ErrDone as soon as the body is over -/
def pc (s : St) : Nat := if s.code ≠ 0 then s.code else if s.ph = 4 then 18 else 0
/-- which line comes next: a size, the empty one behind a chunk, a field -/
def nx (s : St) : Nat := if s.ph = 0 then 0 else if s.ph = 3 then 2 else 1
/-- how many bytes of a chunk are to come -/
def lf (s : St) : Nat := if s.ph = 1 then s.left else 0
structure Good (s : St) : Prop where
  ph : s.ph ≤ 4
  ln : Ln.Good s.ln
  lc : s.ln.code = 0
  left : s.ph = 1 → 0 < s.left
  left_le : s.left ≤ 4000
  total : s.total ≤ 4000
  count : s.count ≤ 16
theorem Good.start : Good start := ⟨Nat.zero_le _, Ln.Good.start, rfl, fun h => (by cases h), Nat.zero_le _, Nat.zero_le _, Nat.zero_le _⟩
theorem pc_zero {s : St} : pc s = 0 ↔ s.code = 0 ∧ s.ph ≠ 4 := by
  unfold pc
  by_cases h : s.code = 0
  · rw [if_neg (fun e => e h)]
    by_cases h4 : s.ph = 4
    · rw [if_pos h4]; simp [h4]
    · rw [if_neg h4]; simp [h, h4]
  · rw [if_pos h]; simp [h]
theorem Good.line {s : St} (h : Good s) (t : List UInt8) : Good (line s t) := by
  obtain ⟨h1, h2, h3, h4, h5, h6, h7⟩ := h
  unfold Ck.line
  split
  · split
    · exact ⟨h1, h2, h3, h4, h5, h6, h7⟩
    · split
      · exact ⟨h1, h2, h3, h4, h5, h6, h7⟩
      · split
        · exact ⟨(by show 3 ≤ 4; omega), h2, h3, fun e => (by have : (3 : Nat) = 1 := e; omega), h5, h6, h7⟩
        · rename_i _ a b
          exact ⟨(by show 1 ≤ 4; omega), h2, h3, fun _ => (by show 0 < (size t).1.toNat; omega), (by show (size t).1.toNat ≤ 4000; omega), (by show s.total + (size t).1.toNat ≤ 4000; omega), h7⟩
  · split
    · split
      · exact ⟨h1, h2, h3, h4, h5, h6, h7⟩
      · exact ⟨(by show 0 ≤ 4; omega), h2, h3, fun e => (by have : (0 : Nat) = 1 := e; omega), h5, h6, h7⟩
    · split
      · exact ⟨(by show 4 ≤ 4; omega), h2, h3, fun e => (by have : (4 : Nat) = 1 := e; omega), h5, h6, h7⟩
      · split
        · exact ⟨h1, h2, h3, h4, h5, h6, h7⟩
        · split
          · exact ⟨h1, h2, h3, h4, h5, h6, h7⟩
          · exact ⟨h1, h2, h3, h4, h5, h6, (by show s.count + 1 ≤ 16; omega)⟩
theorem Good.next {s : St} (h : Good s) (c : UInt8) : Good (next s c) := by
  have hh := h
  obtain ⟨h1, h2, h3, h4, h5, h6, h7⟩ := h
  unfold Ck.next
  split
  · exact hh
  · split
    · exact ⟨h1, h2, h3, h4, h5, h6, h7⟩
    · split
      · refine ⟨?_, h2, h3, fun e => ?_, (by show s.left - 1 ≤ 4000; omega), h6, h7⟩
        · show (if s.left ≤ 1 then 2 else 1) ≤ 4
          split <;> omega
        · have e' : (if s.left ≤ 1 then 2 else 1) = 1 := e
          show 0 < s.left - 1
          split at e' <;> omega
      · split
        · exact ⟨h1, h2, h3, h4, h5, h6, h7⟩
        · split
          · exact Good.line (s := { s with ln := Ln.start }) ⟨h1, Ln.Good.start, rfl, h4, h5, h6, h7⟩ _
          · exact ⟨h1, Ln.next_good h2, (by rename_i a _; show (Ln.next s.ln c).code = 0; omega), h4, h5, h6, h7⟩
theorem Good.fold : ∀ (l : List UInt8) {s : St}, Good s → Good (fold s l)
  | [], _, h => h
  | c :: t, s, h => Good.fold t (s := Ck.next s c) (h.next c)
end Go.Proofs.YtjhbiipbmlpgoaaDoor.Ck

/- Plain laws of a body in chunks: there and back. -/
namespace Go.Proofs.YtjhbiipbmlpgoaaDoor.Ck

theorem line_of (t r : List UInt8) (hv : ∀ b ∈ t, Ch.visible b.toNat = true) (hl : t.length ≤ 200) : Ln.of (t ++ 13 :: 10 :: r) = ⟨t, t.length + 2, true, 0⟩ := by
  rw [Ln.go_skip (t ++ 13 :: 10 :: r) t.length (by simp) hl (fun b hb => hv b (by simpa using hb))]
  have hlt : t.length < (t ++ 13 :: 10 :: r).length := by simp
  rw [Ln.go_at _ _ hlt]
  have e0 : (t ++ 13 :: 10 :: r)[t.length] = 13 := by simp
  have h2 : t.length + 1 < (t ++ 13 :: 10 :: r).length := by simp
  have e1 : (t ++ 13 :: 10 :: r)[t.length + 1] = 10 := by
    rw [List.getElem_append_right (by omega)]; simp
  rw [if_pos e0, dif_pos h2, if_pos e1]
  simp
/-- digits to the base 16 -/
theorem hexs_in : ∀ j, j < 16 → Ch.hexs.getD j 0 ∈ Ch.hexs := fun j hj => (show ∀ j : Fin 16, Ch.hexs.getD j.val 0 ∈ Ch.hexs by decide) ⟨j, hj⟩
theorem hexF_in : ∀ (f n : Nat), n < 16 ^ (f + 1) → ∀ b ∈ Ch.hexF f n, b ∈ Ch.hexs
  | 0, n, h, b, hb => by
    have : b = Ch.hexs.getD n 0 := by simpa [Ch.hexF] using hb
    rw [this]; exact hexs_in n (by simpa using h)
  | f + 1, n, h, b, hb => by
    unfold Ch.hexF at hb
    split at hb
    · rename_i hn
      have : b = Ch.hexs.getD n 0 := by simpa using hb
      rw [this]; exact hexs_in n hn
    · rw [List.mem_append, List.mem_singleton] at hb
      rcases hb with hb | rfl
      · exact hexF_in f (n / 16) (by rw [Nat.pow_succ] at h; omega) b hb
      · exact hexs_in _ (by omega)
theorem hexs_fine : ∀ b ∈ Ch.hexs, Ch.visible b.toNat = true ∧ b ≠ 59 ∧ Ch.ws.contains b = false := by decide
theorem trim_none {t : List UInt8} (h : ∀ b ∈ t, Ch.ws.contains b = false) : Lib.trimS t Ch.ws = t := by
  have key : ∀ u : List UInt8, (∀ b ∈ u, Ch.ws.contains b = false) → u.dropWhile (Ch.ws.contains ·) = u := by
    intro u hu
    cases u with
    | nil => rfl
    | cons a v => rw [List.dropWhile_cons, hu a (List.mem_cons_self ..)]; rfl
  unfold Lib.trimS Lib.trimLeftS Lib.trimRightS
  rw [key t.reverse (fun b hb => h b (List.mem_reverse.1 hb)), List.reverse_reverse, key t h]
theorem at_none59 {t : List UInt8} (h : ∀ b ∈ t, b ≠ 59) : Fd.at_ 59 t = t.length := Fd.at_none fun _ hj => h _ (List.getElem_mem hj)
/-- a size's own line -/
theorem size_hex (n : Nat) (h : n < 16777216) : size (Ch.hexF 5 n) = ((n : Int), true) := by
  have hi := hexF_in 5 n (by simpa using h)
  unfold size
  rw [at_none59 (fun b hb => (hexs_fine b (hi b hb)).2.1), List.take_length, trim_none (fun b hb => (hexs_fine b (hi b hb)).2.2)]
  exact Ch.number_hex n h
theorem line_hex (n : Nat) (h : n < 16777216) (r : List UInt8) : Ln.of (Ch.hexF 5 n ++ 13 :: 10 :: r) = ⟨Ch.hexF 5 n, (Ch.hexF 5 n).length + 2, true, 0⟩ :=
  line_of _ r (fun b hb => (hexs_fine b (hexF_in 5 n (by simpa using h) b hb)).1) (by have := (Ch.hexF_length 5 n).1; omega)
/-- a list of bytes as a chunk -/
def one (x : List UInt8) : List UInt8 := if x = [] then [] else Ch.hexF 5 x.length ++ [13, 10] ++ x ++ [13, 10]
/-- lists of bytes in chunks -/
def text (ls : List (List UInt8)) : List UInt8 := ls.flatMap one ++ [48, 13, 10, 13, 10]
theorem go_text : ∀ (ls : List (List UInt8)) (f n : Nat), (text ls).length < f → n + ls.flatten.length ≤ 4000 → go f (text ls) n = ⟨ls.flatten, (text ls).length, true, 0⟩
  | [], 0, n, hf, _ => by omega
  | [], f + 1, n, hf, hn => by
    have e : text [] = [48] ++ 13 :: 10 :: [13, 10] := rfl
    have h1 : Ln.of (text []) = ⟨[48], 3, true, 0⟩ := by rw [e]; exact line_of [48] [13, 10] (by decide) (by decide)
    have h2 : size [48] = (0, true) := size_hex 0 (by omega)
    have h3 : Ln.of [13, 10] = ⟨[], 2, true, 0⟩ := line_of [] [] (by decide) (by decide)
    have hd : (text []).drop 3 = [13, 10] := rfl
    rw [go, h1]
    simp only []
    rw [if_neg (by simp), h2]
    simp only []
    rw [if_neg (by simp), if_neg (by simp at hn ⊢; omega), if_pos (by simp), hd, trail, h3]
    simp only []
    rw [if_neg (by simp), if_pos trivial]
    rfl
  | x :: ls, 0, n, hf, _ => by omega
  | x :: ls, f + 1, n, hf, hn => by
    by_cases hx : x = []
    · subst hx
      have e : text ([] :: ls) = text ls := by simp [text, one]
      rw [e] at hf ⊢
      have e2 : ([] :: ls : List (List UInt8)).flatten = ls.flatten := by simp
      rw [e2] at hn ⊢
      exact go_text ls (f + 1) n hf hn
    · have hfl : (x :: ls).flatten.length = x.length + ls.flatten.length := by simp
      rw [hfl] at hn
      have hxl : 0 < x.length := List.length_pos_iff.2 hx
      have hlt : x.length < 16777216 := by omega
      have e : text (x :: ls) = Ch.hexF 5 x.length ++ 13 :: 10 :: (x ++ 13 :: 10 :: text ls) := by
        simp [text, one, hx]
      have h1 : Ln.of (text (x :: ls)) = ⟨Ch.hexF 5 x.length, (Ch.hexF 5 x.length).length + 2, true, 0⟩ := by rw [e]; exact line_hex _ hlt _
      have hd : (text (x :: ls)).drop ((Ch.hexF 5 x.length).length + 2) = x ++ 13 :: 10 :: text ls := by
        rw [e, ← List.drop_drop, List.drop_left]; rfl
      have h3 : Ln.of (13 :: 10 :: text ls) = ⟨[], 2, true, 0⟩ := line_of [] (text ls) (by simp) (by simp)
      have hs := size_hex x.length hlt
      have hlen : (text (x :: ls)).length = (Ch.hexF 5 x.length).length + 2 + x.length + 2 + (text ls).length := by
        rw [e]; simp; omega
      rw [go, h1]
      simp only []
      rw [if_neg (by simp), hs]
      simp only [Int.toNat_natCast]
      rw [if_neg (by simp), if_neg (by omega), if_neg (by omega), hd, if_neg (by simp), List.drop_left, List.take_left, h3]
      simp only []
      rw [if_neg (by simp), if_neg (by simp)]
      have hdd : List.drop 2 (13 :: 10 :: text ls) = text ls := rfl
      rw [hdd, go_text ls f (n + x.length) (by omega) (by omega), hlen]
      simp
/-- there and back -/
theorem of_text (ls : List (List UInt8)) (h : ls.flatten.length ≤ 4000) : of (text ls) = ⟨ls.flatten, (text ls).length, true, 0⟩ := go_text ls _ 0 (by omega) (by omega)
theorem run_text (ls : List (List UInt8)) (h : ls.flatten.length ≤ 4000) : run start (text ls) = ⟨ls.flatten, (text ls).length, true, 0⟩ := by
  have hs := of_run (text ls)
  rw [of_text ls h] at hs
  have h1 := hs.body
  have h2 := hs.over
  have h3 := hs.code
  have h4 := hs.used (Or.inr rfl)
  cases hr : run start (text ls)
  rw [hr] at h1 h2 h3 h4
  simp only at h1 h2 h3 h4
  subst h1; subst h2; subst h3; subst h4
  rfl
end Go.Proofs.YtjhbiipbmlpgoaaDoor.Ck

/- Plain laws of a body in chunks: what each byte brings, in the document's own terms. -/
namespace Go.Proofs.YtjhbiipbmlpgoaaDoor.Ck

theorem fold_snoc (s : St) (l : List UInt8) (c : UInt8) : fold s (l ++ [c]) = next (fold s l) c := by simp [fold]
theorem outs_snoc : ∀ (l : List UInt8) (s : St) (c : UInt8), outs s (l ++ [c]) = outs s l ++ out (fold s l) c
  | [], s, c => by simp [outs, fold]
  | d :: t, s, c => by
    show out s d ++ outs (next s d) (t ++ [c]) = (out s d ++ outs (next s d) t) ++ out (fold (next s d) t) c
    rw [outs_snoc t (next s d) c, List.append_assoc]
theorem out_len (s : St) (c : UInt8) : (out s c).length ≤ 1 := by unfold out; split <;> simp
theorem out_code {s : St} {c : UInt8} (h : (next s c).code ≠ 0) : out s c = [] := by
  unfold out
  rw [if_neg]
  rintro ⟨h0, h1⟩
  apply h
  unfold next
  rw [if_neg (by omega), if_neg (by omega), if_pos h1]
  exact h0
/-- what of the body came stays within its bounds -/
theorem take_at (b : List UInt8) (i : Nat) (hi : i < b.length) : fold start (b.take (i + 1)) = next (fold start (b.take i)) b[i] ∧ outs start (b.take (i + 1)) = outs start (b.take i) ++ out (fold start (b.take i)) b[i] := by
  rw [List.take_succ_eq_append_getElem hi]
  exact ⟨fold_snoc _ _ _, outs_snoc _ _ _⟩
theorem outs_le : ∀ (l : List UInt8) (s : St), (outs s l).length ≤ l.length
  | [], _ => Nat.le_refl _
  | c :: t, s => by
    have h1 := out_len s c
    have h2 := outs_le t (next s c)
    show (out s c ++ outs (next s c) t).length ≤ t.length + 1
    rw [List.length_append]; omega
/-- byte by byte, in terms of what is told of all bytes -/
theorem told_at (b : List UInt8) (i : Nat) (hi : i < b.length) :
    (next (fold start (b.take i)) b[i]).code = (if (of b).code ≠ 0 ∧ (of b).used ≤ i + 1 then (of b).code else if (of b).over = true ∧ (of b).used ≤ i then 18 else 0) ∧
    over (fold start (b.take i)) b[i] = decide ((of b).over = true ∧ i + 1 = (of b).used) := by
  have hs := of_run b
  obtain ⟨h1, h2⟩ := run_at b start rfl (by show (0 : Nat) ≠ 4; omega) i hi
  rw [h1, h2, ← hs.code, ← hs.over]
  constructor
  · by_cases hc : (of b).code = 0
    · simp only [hc, ne_eq, not_true_eq_false, false_and, if_false]
      cases ho : (of b).over
      · simp
      · rw [hs.used (Or.inr ho)]
    · rw [hs.used (Or.inl hc)]
  · cases ho : (of b).over
    · simp
    · rw [hs.used (Or.inr ho)]
theorem told_body (b : List UInt8) : outs start b = (of b).body := by
  rw [run_outs]; exact (of_run b).body.symm
theorem of_used (b : List UInt8) (h : (of b).code ≠ 0 ∨ (of b).over = true) : 1 ≤ (of b).used ∧ (of b).used ≤ b.length := by
  have hs := of_run b
  rw [hs.used h]
  refine run_used b start ?_
  rw [← hs.code, ← hs.over]; exact h
/-- what was written, byte by byte -/
theorem back_at (ls : List (List UInt8)) (h : ls.flatten.length ≤ 4000) (i : Nat) (hi : i < (text ls).length) :
    (next (fold start ((text ls).take i)) (text ls)[i]).code = 0 ∧ over (fold start ((text ls).take i)) (text ls)[i] = decide (i + 1 = (text ls).length) := by
  obtain ⟨h1, h2⟩ := told_at (text ls) i hi
  rw [of_text ls h] at h1 h2
  rw [h1, h2]
  constructor
  · rw [if_neg (by simp), if_neg]
    rintro ⟨_, e⟩
    have : (text ls).length ≤ i := e
    omega
  · simp
theorem back_body (ls : List (List UInt8)) (h : ls.flatten.length ≤ 4000) : outs start (text ls) = ls.flatten := by
  rw [told_body, of_text ls h]
end Go.Proofs.YtjhbiipbmlpgoaaDoor.Ck
