/- Plain functions and laws: numbers as texts, blanks at both ends, small letters again. -/
import Derived.Test.YtenanljodjkonabDoorPlainA
namespace Go.Proofs.YtenanljodjkonabDoor.Ch

/-- a number in decimal, as far as its digits are at most f + 1 -/
def decF : Nat → Nat → List UInt8
  | 0, n => [(48 + n).toUInt8]
  | f + 1, n => if n < 10 then [(48 + n).toUInt8] else decF f (n / 10) ++ [(48 + n % 10).toUInt8]
/-- a number to the base 16 -/
def hexF : Nat → Nat → List UInt8
  | 0, n => [hexs.getD n 0]
  | f + 1, n => if n < 16 then [hexs.getD n 0] else hexF f (n / 16) ++ [hexs.getD (n % 16) 0]

theorem digs_at (j : Nat) (h : j < 10) : ((⟨#[48, 49, 50, 51, 52, 53, 54, 55, 56, 57]⟩ : ByteArray).extract j (j + 1)).data.toList = [(48 + j).toUInt8] :=
  (show ∀ j : Fin 10, ((⟨#[48, 49, 50, 51, 52, 53, 54, 55, 56, 57]⟩ : ByteArray).extract j.val (j.val + 1)).data.toList = [(48 + j.val).toUInt8] by decide +kernel) ⟨j, h⟩

theorem decF_length : ∀ f n, (decF f n).length ≤ f + 1 ∧ 1 ≤ (decF f n).length
  | 0, n => by simp [decF]
  | f + 1, n => by
    unfold decF
    split
    · simp
    · have := decF_length f (n / 10)
      simp; omega
theorem hexF_length : ∀ f n, (hexF f n).length ≤ f + 1 ∧ 1 ≤ (hexF f n).length
  | 0, n => by simp [hexF]
  | f + 1, n => by
    unfold hexF
    split
    · simp
    · have := hexF_length f (n / 16)
      simp; omega

theorem dec_dig (j : Nat) (h : j < 10) : dig 10 ((48 + j).toUInt8) = true ∧ hex ((48 + j).toUInt8).toNat = j :=
  (show ∀ j : Fin 10, dig 10 ((48 + j.val).toUInt8) = true ∧ hex ((48 + j.val).toUInt8).toNat = j.val by decide +kernel) ⟨j, h⟩
theorem hex_dig (j : Nat) (h : j < 16) : dig 16 (hexs.getD j 0) = true ∧ hex (hexs.getD j 0).toNat = j :=
  (show ∀ j : Fin 16, dig 16 (hexs.getD j.val 0) = true ∧ hex (hexs.getD j.val 0).toNat = j.val by decide +kernel) ⟨j, h⟩

theorem decF_num : ∀ f n, n < 10 ^ (f + 1) → (decF f n).all (dig 10) = true ∧ numOf 10 (decF f n) = n
  | 0, n, h => by
    have := dec_dig n (by simpa using h)
    simp only [decF, List.all_cons, List.all_nil, Bool.and_true, numOf, List.foldl_cons, List.foldl_nil]
    exact ⟨this.1, by rw [this.2]; omega⟩
  | f + 1, n, h => by
    unfold decF
    split
    · rename_i hn
      have := dec_dig n hn
      simp only [List.all_cons, List.all_nil, Bool.and_true, numOf, List.foldl_cons, List.foldl_nil]
      exact ⟨this.1, by rw [this.2]; omega⟩
    · have hq : n / 10 < 10 ^ (f + 1) := by
        rw [Nat.pow_succ] at h
        omega
      have ih := decF_num f (n / 10) hq
      have hr := dec_dig (n % 10) (by omega)
      rw [all_snoc, numOf_snoc, ih.1, ih.2, hr.1, hr.2]
      exact ⟨rfl, by omega⟩
theorem hexF_num : ∀ f n, n < 16 ^ (f + 1) → (hexF f n).all (dig 16) = true ∧ numOf 16 (hexF f n) = n
  | 0, n, h => by
    have := hex_dig n (by simpa using h)
    simp only [hexF, List.all_cons, List.all_nil, Bool.and_true, numOf, List.foldl_cons, List.foldl_nil]
    exact ⟨this.1, by rw [this.2]; omega⟩
  | f + 1, n, h => by
    unfold hexF
    split
    · rename_i hn
      have := hex_dig n hn
      simp only [List.all_cons, List.all_nil, Bool.and_true, numOf, List.foldl_cons, List.foldl_nil]
      exact ⟨this.1, by rw [this.2]; omega⟩
    · have hq : n / 16 < 16 ^ (f + 1) := by
        rw [Nat.pow_succ] at h
        omega
      have ih := hexF_num f (n / 16) hq
      have hr := hex_dig (n % 16) (by omega)
      rw [all_snoc, numOf_snoc, ih.1, ih.2, hr.1, hr.2]
      exact ⟨rfl, by omega⟩

theorem hexF_small (f n : Nat) (h : n < 16) : hexF f n = [hexs.getD n 0] := by
  cases f with
  | zero => rfl
  | succ f => unfold hexF; rw [if_pos h]
theorem hexF_succ (f n : Nat) (h : ¬ n < 16) : (hexF f (n / 16)) ++ (hexF f (n % 16)) = hexF (f + 1) n := by
  rw [hexF_small f (n % 16) (by omega)]
  conv => rhs; unfold hexF
  rw [if_neg h]

/-- a number's text is the number -/
theorem number_dec (n : Nat) (h : n < 1000000000) : number 10 9 (decF 8 n) = ((n : Int), true) := by
  have hl := decF_length 8 n
  have hn := decF_num 8 n (by simpa using h)
  rw [number_yes _ _ _ (by intro e; rw [e] at hl; simp at hl) (by omega) hn.1, hn.2]
theorem number_hex (n : Nat) (h : n < 16777216) : number 16 6 (hexF 5 n) = ((n : Int), true) := by
  have hl := hexF_length 5 n
  have hn := hexF_num 5 n (by simpa using h)
  rw [number_yes _ _ _ (by intro e; rw [e] at hl; simp at hl) (by omega) hn.1, hn.2]

theorem lowB_no (b : UInt8) (h : capital b.toNat = false) : lowB b = b := by
  unfold lowB lowTo
  rw [if_neg]
  intro hc
  unfold capital at h
  rw [decide_eq_true (by omega), decide_eq_true (by omega)] at h
  cases h
theorem lowB_yes (b : UInt8) (h : capital b.toNat = true) : ((lowB b).toNat : Int) = b.toNat - 65 + 97 := by
  unfold capital at h
  rw [Bool.and_eq_true, decide_eq_true_eq, decide_eq_true_eq] at h
  unfold lowB lowTo
  rw [if_pos (by omega), UInt8.toNat_add]
  have : (32 : UInt8).toNat = 32 := rfl
  rw [this]
  omega

/-- small letters again change nothing -/
theorem lowB_again (b : UInt8) : lowB (lowB b) = lowB b := by
  have hb := b.toNat_lt
  have := (show ∀ n : Fin 256, lowB (lowB n.val.toUInt8) = lowB n.val.toUInt8 by decide +kernel) ⟨b.toNat, hb⟩
  have e : b.toNat.toUInt8 = b := by simp
  simpa only [e] using this
theorem lower_again (l : List UInt8) : lower (lower l) = lower l := by
  simp only [lower, List.map_map]
  exact List.map_congr_left fun b _ => lowB_again b
theorem lowB_token (b : UInt8) : token (lowB b).toNat = token b.toNat := by
  have hb := b.toNat_lt
  have := (show ∀ n : Fin 256, token (lowB n.val.toUInt8).toNat = token (n.val.toUInt8).toNat by decide +kernel) ⟨b.toNat, hb⟩
  have e : b.toNat.toUInt8 = b := by simp
  simpa only [e] using this
theorem lower_token (l : List UInt8) : isToken (lower l) = isToken l := by
  unfold isToken lower
  rw [List.all_map]
  congr 1
  · simp
  · congr 1
    funext b
    exact lowB_token b

/-- blanks and tabs at both ends, from whichever end -/
theorem rdrop_cons (p : UInt8 → Bool) (a : UInt8) (t : List UInt8) :
    ((a :: t).reverse.dropWhile p).reverse = if ((t.reverse.dropWhile p).reverse) = [] then (if p a then [] else [a]) else a :: (t.reverse.dropWhile p).reverse := by
  rw [List.reverse_cons, List.dropWhile_append]
  by_cases h : (t.reverse.dropWhile p) = []
  · rw [h]
    simp [List.dropWhile]
    cases p a <;> simp
  · have h1 : (List.dropWhile p t.reverse).isEmpty = false := by
      cases h2 : List.dropWhile p t.reverse with
      | nil => exact absurd h2 h
      | cons _ _ => rfl
    rw [h1]
    simp [h]
theorem drop_both (p : UInt8 → Bool) : ∀ l : List UInt8, (((l.dropWhile p).reverse.dropWhile p).reverse) = ((l.reverse.dropWhile p).reverse).dropWhile p
  | [] => rfl
  | a :: t => by
    rw [rdrop_cons]
    cases hp : p a
    · rw [List.dropWhile_cons, hp]
      simp only [Bool.false_eq_true, if_false]
      rw [rdrop_cons]
      split <;> simp [hp]
    · rw [List.dropWhile_cons, hp]
      simp only [if_true]
      rw [drop_both p t]
      split
      · rename_i h
        rw [h]
      · rw [List.dropWhile_cons, hp]
        simp
def ws : List UInt8 := [32, 9]
theorem trim_both (l : List UInt8) : Lib.trimRightS (Lib.trimLeftS l ws) ws = Lib.trimS l ws := drop_both (ws.contains ·) l
theorem ws_eq (b : UInt8) : ws.contains b = (((b.toNat : Int) == 32) || ((b.toNat : Int) == 9)) := by
  have hb := b.toNat_lt
  have := (show ∀ n : Fin 256, ws.contains n.val.toUInt8 = ((((n.val.toUInt8).toNat : Int) == 32) || (((n.val.toUInt8).toNat : Int) == 9)) by decide +kernel) ⟨b.toNat, hb⟩
  have e : b.toNat.toUInt8 = b := by simp
  simpa only [e] using this
theorem head_list (x : ByteArray) (h : 0 < x.size) : x.data.toList = x[0] :: x.data.toList.drop 1 := by
  have := List.drop_eq_getElem_cons (l := x.data.toList) (i := 0) (by simpa using h)
  rw [List.drop_zero] at this
  exact this
theorem last_list (x : ByteArray) (h : 0 < x.size) : x.data.toList = x.data.toList.take (x.size - 1) ++ [x[x.size - 1]] := by
  have := take_snoc x (x.size - 1) (by omega)
  rw [← this, take_all x _ (by omega)]
theorem left_step (x : ByteArray) (h : 0 < x.size) (hp : ws.contains x[0] = true) : Lib.trimLeftS (x.data.toList.drop 1) ws = Lib.trimLeftS x.data.toList ws := by
  unfold Lib.trimLeftS
  conv => rhs; rw [head_list x h, List.dropWhile_cons, hp]
  rfl
theorem left_stop (x : ByteArray) (hp : ∀ h : 0 < x.size, ws.contains (x[0]'h) = false) : Lib.trimLeftS x.data.toList ws = x.data.toList := by
  unfold Lib.trimLeftS
  by_cases h : 0 < x.size
  · rw [head_list x h, List.dropWhile_cons, hp h]
    rfl
  · obtain rfl := empty_eq x (by omega)
    rfl
theorem right_step (x : ByteArray) (h : 0 < x.size) (hp : ws.contains (x[x.size - 1]'(by omega)) = true) : Lib.trimRightS (x.data.toList.take (x.size - 1)) ws = Lib.trimRightS x.data.toList ws := by
  unfold Lib.trimRightS
  conv => rhs; rw [last_list x h, List.reverse_append, List.reverse_cons, List.reverse_nil, List.nil_append, List.singleton_append, List.dropWhile_cons, hp]
  rfl
theorem right_stop (x : ByteArray) (hp : ∀ h : 0 < x.size, ws.contains (x[x.size - 1]'(by omega)) = false) : Lib.trimRightS x.data.toList ws = x.data.toList := by
  unfold Lib.trimRightS
  by_cases h : 0 < x.size
  · rw [last_list x h, List.reverse_append, List.reverse_cons, List.reverse_nil, List.nil_append, List.singleton_append, List.dropWhile_cons, hp h]
    simp
  · obtain rfl := empty_eq x (by omega)
    rfl

end Go.Proofs.YtenanljodjkonabDoor.Ch
