/- Plain: a log's entries, as they are written and as they are read; no program in it. -/
import Derived.WalkKit
namespace Go.Proofs.Ytankilclhknbkaa.Jn

/-- a number (one more than what is told) in groups of seven bits, the lowest first -/
def num (m : Nat) : List UInt8 := if h : m < 128 then [UInt8.ofNat m] else UInt8.ofNat (m % 128 + 128) :: num (m / 128)
termination_by m
decreasing_by omega
theorem num_small {m : Nat} (h : m < 128) : num m = [UInt8.ofNat m] := by rw [num, dif_pos h]
theorem num_great {m : Nat} (h : ¬ m < 128) : num m = UInt8.ofNat (m % 128 + 128) :: num (m / 128) := by rw [num, dif_neg h]
theorem num_pos (m : Nat) : 0 < (num m).length := by
  rw [num]; split <;> simp
theorem toNat_of {k : Nat} (h : k < 256) : (UInt8.ofNat k).toNat = k := by simp; omega
/-- a number of so many groups at most -/
theorem num_len : ∀ (k m : Nat), m < 128 ^ (k + 1) → (num m).length ≤ k + 1 := by
  intro k
  induction k with
  | zero => intro m h; rw [num_small (by simpa using h)]; simp
  | succ k ih =>
    intro m h
    by_cases hm : m < 128
    · rw [num_small hm]; simp
    · rw [num_great hm]
      have : m / 128 < 128 ^ (k + 1) := by rw [Nat.div_lt_iff_lt_mul (by decide)]; rw [Nat.pow_succ] at h; exact h
      have := ih _ this
      simp only [List.length_cons]; omega

/-- the number that stands at the beginning (within k bytes), and how many bytes it has; f: it is the first byte -/
def rdG : Nat → Bool → List UInt8 → Option (Nat × Nat)
  | 0, _, _ => none
  | _ + 1, _, [] => none
  | k + 1, f, c :: r => if c.toNat < 128 then (if c.toNat = 0 ∧ f = false then none else some (c.toNat, 1)) else (rdG k false r).map fun p => (c.toNat % 128 + 128 * p.1, p.2 + 1)
def rd (b : List UInt8) : Option (Nat × Nat) := rdG 5 true b

theorem rdG_nil (k : Nat) (f : Bool) : rdG k f [] = none := by cases k <;> rfl
/-- what is read is no longer than what is there, and no more than five bytes -/
theorem rdG_le : ∀ (k : Nat) (f : Bool) (b : List UInt8) (m s : Nat), rdG k f b = some (m, s) → 0 < s ∧ s ≤ b.length ∧ s ≤ k ∧ m < 128 ^ k := by
  intro k
  induction k with
  | zero => intro f b m s h; simp [rdG] at h
  | succ k ih =>
    intro f b m s h
    cases b with
    | nil => simp [rdG] at h
    | cons c r =>
      rw [rdG] at h
      split at h
      · rename_i hc
        split at h
        · simp at h
        · simp only [Option.some.injEq, Prod.mk.injEq] at h
          obtain ⟨rfl, rfl⟩ := h
          refine ⟨by omega, by simp, by omega, ?_⟩
          have : 1 ≤ 128 ^ k := Nat.one_le_pow _ _ (by decide)
          rw [Nat.pow_succ]; omega
      · cases hr : rdG k false r with
        | none => rw [hr] at h; simp at h
        | some p =>
          rw [hr] at h
          obtain ⟨m', s'⟩ := p
          simp only [Option.map_some, Option.some.injEq, Prod.mk.injEq] at h
          obtain ⟨rfl, rfl⟩ := h
          obtain ⟨h1, h2, h3, h4⟩ := ih _ _ _ _ hr
          refine ⟨by omega, by simp; omega, by omega, ?_⟩
          rw [Nat.pow_succ]; omega
theorem rd_le {b : List UInt8} {m s : Nat} (h : rd b = some (m, s)) : 0 < s ∧ s ≤ b.length ∧ s ≤ 5 ∧ m < 34359738368 := rdG_le 5 true b m s h
/-- a number that is written is read, whatever stands behind it -/
theorem rdG_num : ∀ (k m : Nat) (f : Bool) (r : List UInt8), m < 128 ^ (k + 1) → (m = 0 → f = true) → rdG (k + 1) f (num m ++ r) = some (m, (num m).length) := by
  intro k
  induction k with
  | zero =>
    intro m f r h hf
    have hm : m < 128 := by simpa using h
    rw [num_small hm]
    simp only [List.cons_append, List.nil_append, rdG, List.length_cons, List.length_nil]
    rw [toNat_of (by omega), if_pos hm, if_neg]
    intro ⟨h1, h2⟩
    have := hf h1; rw [this] at h2; cases h2
  | succ k ih =>
    intro m f r h hf
    by_cases hm : m < 128
    · rw [num_small hm]
      simp only [List.cons_append, List.nil_append, rdG, List.length_cons, List.length_nil]
      rw [toNat_of (by omega), if_pos hm, if_neg]
      intro ⟨h1, h2⟩
      have := hf h1; rw [this] at h2; cases h2
    · rw [num_great hm]
      have h1 : m / 128 < 128 ^ (k + 1) := by rw [Nat.div_lt_iff_lt_mul (by decide)]; rw [Nat.pow_succ] at h; exact h
      rw [List.cons_append, rdG, toNat_of (by omega), if_neg (by omega), ih _ false r h1 (fun e => by omega)]
      simp only [Option.map_some, List.length_cons]
      congr 2
      omega
theorem rd_num {m : Nat} (h : m < 34359738368) (r : List UInt8) : rd (num m ++ r) = some (m, (num m).length) := rdG_num 4 m true r h (fun _ => rfl)
/-- a number that is cut off is none -/
theorem rdG_cut : ∀ (k m : Nat) (f : Bool) (j : Nat), j < (num m).length → rdG k f ((num m).take j) = none := by
  intro k
  induction k with
  | zero => intros; rfl
  | succ k ih =>
    intro m f j hj
    cases j with
    | zero => rfl
    | succ j =>
      by_cases hm : m < 128
      · rw [num_small hm] at hj; simp at hj
      · rw [num_great hm] at hj ⊢
        rw [List.take_succ_cons, rdG, toNat_of (by omega), if_neg (by omega), ih _ _ _ (by simpa using hj)]
        rfl
theorem rd_cut {m j : Nat} (h : j < (num m).length) : rd ((num m).take j) = none := rdG_cut 5 m true j h
/-- what is read is written so -/
theorem rdG_back : ∀ (k : Nat) (f : Bool) (b : List UInt8) (m s : Nat), rdG k f b = some (m, s) → b.take s = num m ∧ (m = 0 → f = true) := by
  intro k
  induction k with
  | zero => intro f b m s h; simp [rdG] at h
  | succ k ih =>
    intro f b m s h
    cases b with
    | nil => simp [rdG] at h
    | cons c r =>
      rw [rdG] at h
      split at h
      · rename_i hc
        split at h
        · simp at h
        · rename_i hz
          simp only [Option.some.injEq, Prod.mk.injEq] at h
          obtain ⟨rfl, rfl⟩ := h
          refine ⟨?_, fun e => ?_⟩
          · rw [num_small hc]; simp
          · cases f
            · exact absurd ⟨e, rfl⟩ hz
            · rfl
      · cases hr : rdG k false r with
        | none => rw [hr] at h; simp at h
        | some p =>
          rw [hr] at h
          obtain ⟨m', s'⟩ := p
          simp only [Option.map_some, Option.some.injEq, Prod.mk.injEq] at h
          obtain ⟨rfl, rfl⟩ := h
          obtain ⟨h1, h2⟩ := ih _ _ _ _ hr
          have hm : m' ≠ 0 := fun e => by have := h2 e; cases this
          have hc := c.toNat_lt
          refine ⟨?_, fun e => by omega⟩
          rw [num_great (by omega), List.take_succ_cons, h1]
          congr 1
          · apply UInt8.toNat_inj.1
            rw [toNat_of (by omega)]
            omega
          · congr 1; omega
theorem rd_back {b : List UInt8} {m s : Nat} (h : rd b = some (m, s)) : b.take s = num m := (rdG_back 5 true b m s h).1
/-- a loop over the bytes: behind i of them that go on -/
theorem rdG_at (b : List UInt8) (i : Nat) (hi : i < 5) (hl : i < b.length) (k : Nat) (hk : k = 5 - i) (f : Bool) : rdG k f (b.drop i) = if b[i].toNat < 128 then (if b[i].toNat = 0 ∧ f = false then none else some (b[i].toNat, 1)) else (rdG (5 - (i + 1)) false (b.drop (i + 1))).map fun p => (b[i].toNat % 128 + 128 * p.1, p.2 + 1) := by
  obtain ⟨k', rfl⟩ : ∃ k', k = k' + 1 := ⟨5 - (i + 1), by omega⟩
  rw [List.drop_eq_getElem_cons hl, rdG]
  have : k' = 5 - (i + 1) := by omega
  rw [this]

/-- an entry -/
structure E where
  kind : Int
  id : Int
  n : Int
  text : List UInt8
def fits (e : E) : Bool := decide (1 ≤ e.kind) && decide (e.kind ≤ 6) && decide (-1 ≤ e.id) && decide (e.id ≤ 1073741823) && decide (-1 ≤ e.n) && decide (e.n ≤ 1073741823) && decide (e.text.length ≤ 1048575)
theorem fits_iff (e : E) : fits e = true ↔ (1 ≤ e.kind ∧ e.kind ≤ 6) ∧ (-1 ≤ e.id ∧ e.id ≤ 1073741823) ∧ (-1 ≤ e.n ∧ e.n ≤ 1073741823) ∧ e.text.length ≤ 1048575 := by
  simp only [fits, Bool.and_eq_true, decide_eq_true_eq, and_assoc]
/-- a number's bytes, as it is told -/
def nb (x : Int) : List UInt8 := num (x + 1).toNat
def head (e : E) : List UInt8 := nb e.kind ++ nb e.id ++ nb e.n
def inn (e : E) : List UInt8 := head e ++ e.text
def enc (e : E) : List UInt8 := num ((inn e).length + 1) ++ inn e
theorem nb_len {x : Int} (h : x ≤ 1073741823) : (nb x).length ≤ 5 ∧ 0 < (nb x).length := ⟨num_len 4 _ (by omega), num_pos _⟩
theorem head_len {e : E} (h : fits e = true) : (head e).length ≤ 15 := by
  obtain ⟨h1, h2, h3, h4⟩ := (fits_iff e).1 h
  have a := nb_len (x := e.kind) (by omega)
  have b := nb_len h2.2
  have c := nb_len h3.2
  simp only [head, List.length_append]; omega
theorem inn_len {e : E} (h : fits e = true) : (inn e).length ≤ 1048590 := by
  have := head_len h
  obtain ⟨h1, h2, h3, h4⟩ := (fits_iff e).1 h
  simp only [inn, List.length_append]; omega
theorem enc_len {e : E} (h : fits e = true) : (enc e).length ≤ (inn e).length + 5 := by
  have := inn_len h
  have := num_len 4 ((inn e).length + 1) (by omega)
  simp only [enc, List.length_append]; omega
theorem enc_pos (e : E) : 0 < (enc e).length := by
  have := num_pos ((inn e).length + 1)
  simp only [enc, List.length_append]; omega
theorem enc_text {e : E} (h : fits e = true) : (enc e).length ≤ e.text.length + 20 := by
  have h1 := enc_len h
  have h2 := head_len h
  have : (inn e).length = (head e).length + e.text.length := by simp [inn]
  omega

/-- a number that is told, at the beginning -/
def rn (b : List UInt8) : Option (Int × Nat) := (rd b).map fun p => ((p.1 : Int) - 1, p.2)
theorem rn_nb {x : Int} (h0 : -1 ≤ x) (h1 : x ≤ 1073741823) (r : List UInt8) : rn (nb x ++ r) = some (x, (nb x).length) := by
  unfold rn nb
  rw [rd_num (by omega)]
  simp only [Option.map_some]
  congr 2
  omega
theorem rn_le {b : List UInt8} {x : Int} {s : Nat} (h : rn b = some (x, s)) : 0 < s ∧ s ≤ b.length ∧ s ≤ 5 ∧ -1 ≤ x ∧ x < 34359738368 := by
  unfold rn at h
  cases hr : rd b with
  | none => rw [hr] at h; simp at h
  | some p =>
    rw [hr] at h
    obtain ⟨m, s'⟩ := p
    simp only [Option.map_some, Option.some.injEq, Prod.mk.injEq] at h
    obtain ⟨rfl, rfl⟩ := h
    have := rd_le hr
    omega
theorem rn_back {b : List UInt8} {x : Int} {s : Nat} (h : rn b = some (x, s)) : b.take s = nb x := by
  unfold rn at h
  cases hr : rd b with
  | none => rw [hr] at h; simp at h
  | some p =>
    rw [hr] at h
    obtain ⟨m, s'⟩ := p
    simp only [Option.map_some, Option.some.injEq, Prod.mk.injEq] at h
    obtain ⟨rfl, rfl⟩ := h
    rw [rd_back hr]
    unfold nb; congr 1; omega
/-- the bytes behind how many they are -/
def inner (b : List UInt8) : Option E :=
  match rn b with
  | none => none
  | some (x, s) =>
    match rn (b.drop s) with
    | none => none
    | some (y, t) =>
      match rn ((b.drop s).drop t) with
      | none => none
      | some (z, u) => if fits ⟨x, y, z, ((b.drop s).drop t).drop u⟩ = true then some ⟨x, y, z, ((b.drop s).drop t).drop u⟩ else none
/-- the entry at the beginning, and how many bytes it has -/
def one (b : List UInt8) : Option (E × Nat) :=
  match rn b with
  | none => none
  | some (x, s) => if 0 ≤ x ∧ x ≤ (b.length : Int) - s then (inner ((b.drop s).take x.toNat)).map fun e => (e, s + x.toNat) else none
theorem one_le {b : List UInt8} {e : E} {s : Nat} (h : one b = some (e, s)) : 0 < s ∧ s ≤ b.length := by
  unfold one at h
  cases hr : rn b with
  | none => rw [hr] at h; simp at h
  | some p =>
    rw [hr] at h
    obtain ⟨x, s'⟩ := p
    simp only at h
    split at h
    · cases hi : inner ((b.drop s').take x.toNat) with
      | none => rw [hi] at h; simp at h
      | some e' =>
        rw [hi] at h
        simp only [Option.map_some, Option.some.injEq, Prod.mk.injEq] at h
        have := rn_le hr
        omega
    · simp at h
/-- all entries that stand whole, and how many bytes they have -/
def dec (b : List UInt8) : List E × Nat :=
  match _h : one b with
  | none => ([], 0)
  | some (e, s) => (e :: (dec (b.drop s)).1, s + (dec (b.drop s)).2)
termination_by b.length
decreasing_by
  all_goals
    have := one_le _h
    rw [List.length_drop]; omega
theorem dec_none {b : List UInt8} (h : one b = none) : dec b = ([], 0) := by
  rw [dec]; split
  · rfl
  · rename_i h2; rw [h] at h2; cases h2
theorem dec_some {b : List UInt8} {e : E} {s : Nat} (h : one b = some (e, s)) : dec b = (e :: (dec (b.drop s)).1, s + (dec (b.drop s)).2) := by
  rw [dec]; split
  · rename_i h2; rw [h] at h2; cases h2
  · rename_i e' s' h2
    rw [h] at h2; injection h2 with h2; injection h2 with h3 h4
    subst h3; subst h4; rfl
end Go.Proofs.Ytankilclhknbkaa.Jn
